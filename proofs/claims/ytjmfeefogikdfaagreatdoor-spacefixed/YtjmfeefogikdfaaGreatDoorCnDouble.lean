/- The contracts of slices.Clone at digits, of shifted and of Double. -/
import Derived.Lib.ItoaNum
import Derived.Test.YtjmfeefogikdfaaGreatDoorBdJoined
namespace Go.Proofs.YtjmfeefogikdfaaGreatDoor
set_option maxHeartbeats 1000000
set_option maxRecDepth 100000
namespace Bd.Num
def S(B:Nat)(g:Nat->Nat):Nat->Nat
 |0=>0
 |k+1=>S B g k+g k*B^k
theorem Zs(B:Nat)(g:Nat->Nat)(k:Nat):S B g (k+1)=S B g k+g k*B^k:=rfl
def dig(ds:List Nat)(i:Nat):Nat:=ds.getD i 0
def val(B:Nat)(ds:List Nat):Nat:=S B (dig ds) ds.length
structure xJ(B:Nat)(ds:List Nat):Prop where
 small:∀i,dig ds i<B
 last:ds.length≠0->dig ds (ds.length-1)≠0
theorem zae(ds:List Nat)(i:Nat)(h:ds.length<=i):dig ds i=0:=by
 unfold dig;simp[List.getD_eq_getElem?_getD,List.getElem?_eq_none h]
theorem XW(a:List Nat)(x:Nat)(i:Nat):dig (a++[x]) i=if i<a.length then dig a i else if i=a.length then x else 0:=by
 unfold dig;simp only[List.getD_eq_getElem?_getD]
 by_cases h:i<a.length
 ·rw[List.getElem?_append_left h,if_pos h]
 ·rw[if_neg h,List.getElem?_append_right (by omega)]
  by_cases e:i=a.length
  ·subst e;simp
  ·rw[if_neg e,List.getElem?_eq_none (by simp;omega)];rfl
theorem Xl(B:Nat)(g h:Nat->Nat):∀k,(∀i,i<k->g i=h i)->S B g k=S B h k
 |0,_=>rfl
 |k+1,e=>by rw[Zs,Zs,Xl B g h k (fun i hi=>e i (by omega)),e k (by omega)]
theorem JD(B:Nat)(g:Nat->Nat)(k:Nat):∀m,(∀i,k<=i->g i=0)->S B g (k+m)=S B g k
 |0,_=>rfl
 |m+1,e=>by rw[<-Nat.add_assoc,Zs,JD B g k m e,e (k+m) (by omega)];simp
theorem QU(B:Nat)(ds:List Nat)(n:Nat)(h:ds.length<=n):S B (dig ds) n=val B ds:=by
 obtain⟨m,rfl⟩:=Nat.exists_eq_add_of_le h;exact JD B _ _ m (fun i hi=>zae ds i hi)
theorem Ka(B:Nat)(g:Nat->Nat):∀k,(∀i,g i<B)->S B g k<B^k
 |0,_=>by simp[S]
 |k+1,e=>by
  have h1:=Ka B g k e;have h2:(g k+1)*B^k<=B*B^k:=Nat.mul_le_mul_right _ (e k);rw[Zs,Nat.pow_succ,Nat.mul_comm (B^k) B];rw[Nat.add_mul] at h2;omega
theorem zfu{B:Nat}{ds:List Nat}(h:∀i,dig ds i<B):val B ds<B^ds.length:=Ka B _ _ h
theorem zet(B:Nat):val B []=0:=rfl
theorem zkX(i:Nat):dig [] i=0:=by unfold dig;simp
theorem znI{B:Nat}{ds:List Nat}(h:xJ B ds)(hl:ds.length≠0):B^(ds.length-1)<=val B ds:=by
 obtain⟨k,hk⟩:∃k,ds.length=k+1:=⟨ds.length-1,by omega⟩;have h1:=h.last hl;unfold val;rw[hk] at h1 ⊢;rw[Zs];simp only[Nat.add_sub_cancel] at h1 ⊢;have:1*B^k<=dig ds k*B^k:=Nat.mul_le_mul_right _ (by omega);omega
theorem zld(B:Nat)(a:List Nat)(x:Nat):val B (a++[x])=val B a+x*B^a.length:=by
 unfold val;rw[List.length_append,List.length_singleton,Zs];rw[Xl B (dig (a++[x])) (dig a) a.length (fun i hi=>by rw[XW,if_pos hi])];rw[XW,if_neg (by omega),if_pos rfl]
theorem ziU{B:Nat}{ds:List Nat}(hB:2<=B)(h:xJ B ds){k:Nat}(hv:val B ds<B^k):ds.length<=k:=by
 by_cases hl:ds.length=0
 ·omega
 ·have h1:=znI h hl;have h2:B^(ds.length-1)<B^k:=by omega
  have h3:=(Nat.pow_lt_pow_iff_right (a:=B) (by omega)).1 h2;omega
theorem zjB{B x:Nat}{a:List Nat}(ha:∀i,dig a i<B)(hx:x<B)(i:Nat):dig (a++[x]) i<B:=by
 rw[XW];have:=ha i;split
 ·exact this
 ·split
  ·exact hx
  ·omega
theorem zlO(a:List Nat)(x:Nat):dig (a++[x]) ((a++[x]).length-1)=x:=by
 rw[XW];simp
theorem zne{B n m:Nat}{ds:List Nat}(h:val B ds+m*B^ds.length=n):val B (ds++[m%B])+m/B*B^(ds++[m%B]).length=n:=by
 rw[zld,List.length_append,List.length_singleton,Nat.pow_succ,<-h];have h1:=Nat.div_add_mod m B;generalize B^ds.length=p at *;generalize m/B=q at *;generalize m%B=r at *;generalize val B ds=v at *;subst h1
 grind
theorem zjF{n m:Nat}{ds:List Nat}(hm:1<=m)(hn:n<=9223372036854775807)(h:val 1000000000 ds+m*1000000000^ds.length=n):ds.length<=2:=by
 apply Nat.le_of_not_lt;intro h3;have h4:1000000000^3<=1000000000^ds.length:=Nat.pow_le_pow_right (by omega) h3;have h5:1*1000000000^ds.length<=m*1000000000^ds.length:=Nat.mul_le_mul_right _ hm;omega
theorem Kt(ds:List Nat)(k i:Nat):dig (ds.take k) i=if i<k then dig ds i else 0:=by
 unfold dig;simp only[List.getD_eq_getElem?_getD,List.getElem?_take];split
 ·rfl
 ·rfl
theorem Xp(ds:List Nat)(k x i:Nat)(h:k<ds.length):dig (ds.set k x) i=if i=k then x else dig ds i:=by
 unfold dig;simp only[List.getD_eq_getElem?_getD,List.getElem?_set]
 by_cases e:k=i
 ·subst e;simp[h]
 ·rw[if_neg e,if_neg (fun h=>e h.symm)]
theorem zev{B k:Nat}{ds:List Nat}(hk:k<=ds.length)(hz:∀i,k<=i->dig ds i=0):val B (ds.take k)=val B ds:=by
 unfold val;rw[List.length_take,Nat.min_eq_left hk];obtain⟨m,hm⟩:=Nat.exists_eq_add_of_le hk;rw[hm,JD B (dig ds) k m hz];exact Xl B _ _ k (fun i hi=>by rw[Kt,if_pos hi])
theorem zcs{B k:Nat}{ds:List Nat}(hB:0<B)(sm:∀i,dig ds i<B)(hk:k<=ds.length)(hl:k≠0->dig ds (k-1)≠0):xJ B (ds.take k):=by
 refine⟨fun i=>?_,fun h=>?_⟩
 ·rw[Kt];have:=sm i;split<;>omega
 ·rw[List.length_take,Nat.min_eq_left hk] at h ⊢;rw[Kt,if_pos (by omega)];exact hl h
theorem zc9(n i:Nat):dig (List.replicate n 0) i=0:=by
 unfold dig;simp only[List.getD_eq_getElem?_getD,List.getElem?_replicate];split<;>rfl
theorem zmA{B k c x y:Nat}{out:List Nat}{T U:Nat->Nat}(hk:k<out.length)(h:S B (dig out) k+c*B^k=S B T k+S B U k)(hx:T k=x)(hy:U k=y) :
  S B (dig (out.set k ((x+y+c)%B))) (k+1)+(x+y+c)/B*B^(k+1)=S B T (k+1)+S B U (k+1):=by
 rw[Zs,Zs,Zs,hx,hy];rw[Xl B (dig (out.set k ((x+y+c)%B))) (dig out) k (fun i hi=>by rw[Xp _ _ _ _ hk,if_neg (by omega)])];rw[Xp _ _ _ _ hk,if_pos rfl,Nat.pow_succ];have h1:=Nat.div_add_mod (x+y+c) B;generalize (x+y+c)%B=r at *;generalize (x+y+c)/B=q at *;generalize B^k=p at *;generalize S B (dig out) k=s1 at *;generalize S B T k=s2 at *;generalize S B U k=s3 at *
 grind
theorem zdO{B n c s t:Nat}(h:s+c*B^n=t)(ht:t<B^n):c=0:=by
 rcases Nat.eq_zero_or_pos c with e|e
 ·exact e
 ·have:1*B^n<=c*B^n:=Nat.mul_le_mul_right _ e;omega
theorem zbS{B k x:Nat}{out:List Nat}(hk:k<out.length)(sm:∀i,dig out i<B)(hx:x<B)(i:Nat):dig (out.set k x) i<B:=by
 rw[Xp _ _ _ _ hk];have:=sm i;split<;>omega
theorem zl1{B k c x P:Nat}{out:List Nat}{T:Nat->Nat}(hk:k<out.length)(h:S B (dig out) k+c*B^k=S B T k*P)(hx:T k=x) :
  S B (dig (out.set k ((x*P+c)%B))) (k+1)+(x*P+c)/B*B^(k+1)=S B T (k+1)*P:=by
 rw[Zs,Zs,hx];rw[Xl B (dig (out.set k ((x*P+c)%B))) (dig out) k (fun i hi=>by rw[Xp _ _ _ _ hk,if_neg (by omega)])];rw[Xp _ _ _ _ hk,if_pos rfl,Nat.pow_succ];have h1:=Nat.div_add_mod (x*P+c) B;generalize (x*P+c)%B=r at *;generalize (x*P+c)/B=q at *;generalize B^k=p at *;generalize S B (dig out) k=s1 at *;generalize S B T k=s2 at *
 grind
open Go.Lib
end Bd.Num
namespace Bd
open Go.RowKit Num
def Dig(k:IntKind)(w:World)(v:Value)(ds:List Nat):Prop :=
 ∃a cap,v=.slice a ds.length cap/\ds.length<=cap/\∀i,i<ds.length->∃b off,a=some ⟨b,off,none⟩/\b<w.heap.size/\w.cell? ⟨b,off+i,none⟩=some (.int k ((dig ds i:Nat):Int))
theorem Dig.below{k:IntKind}{w w':World}{v:Value}{ds:List Nat}(h:Dig k w v ds)(hb:zB w w'):Dig k w' v ds:=by
 obtain⟨a,cap,hv,hc,hi⟩:=h;refine⟨a,cap,hv,hc,fun i hl=>?_⟩;obtain⟨b,off,ha,hlt,hcell⟩:=hi i hl;exact⟨b,off,ha,Nat.lt_of_lt_of_le hlt hb.size,(hb.cell (p:=⟨b,off+i,none⟩) hlt).trans hcell⟩
theorem Dig.set{k:IntKind}{w:World}{v:Value}{ds:List Nat}(h:Dig k w v ds){p:Addr}{u0:Value}(hp:w.cell? p=some u0)(hu:∀n,u0≠.int k n)(u:Value):Dig k (w.setCell p u) v ds:=by
 obtain⟨a,cap,hv,hc,hi⟩:=h;refine⟨a,cap,hv,hc,fun i hl=>?_⟩;obtain⟨b,off,ha,hb,hcell⟩:=hi i hl;refine⟨b,off,ha,by simpa[World.setCell] using hb,?_⟩;rw[World.cell?_setCell_other _ _ _ _ (fun e=>by subst e;rw[hp] at hcell;exact hu _ (Option.some.inj hcell))];exact hcell
theorem Dig.nil(k:IntKind)(w:World):Dig k w (.slice none 0 0) []:=⟨none,0,rfl,Nat.le_refl _,fun i h=>by simp at h⟩
def zV(k:IntKind)(ds:List Nat):List Value:=ds.map fun d:Nat=>Value.int k (d:Int)
theorem zdJ(k:IntKind)(ds:List Nat):(zV k ds).length=ds.length:=by simp[zV]
theorem Xw(k:IntKind)(ds:List Nat)(x:Nat):zV k (ds++[x])=zV k ds++[Value.int k (x:Int)]:=by simp[zV]
theorem Yg(k:IntKind)(ds:List Nat)(i:Nat)(h:i<ds.length):(zV k ds)[i]?=some (.int k ((dig ds i:Nat):Int)):=by
 unfold zV dig;simp[List.getD_eq_getElem?_getD,List.getElem?_eq_getElem h]
theorem znq(k:IntKind)(ds:List Nat)(j x:Nat):(zV k ds).set j (.int k (x:Int))=zV k (ds.set j x):=by simp[zV,List.map_set]
theorem zd4(k:IntKind)(n:Nat):(madeCells #[Value.int k 0] n).toList=zV k (List.replicate n 0):=by rw[toList_madeCells_one];simp[zV]
theorem zha{w:World}{base:Nat}{e:TypeId}{v:Value}{n:Nat}{xs:List Value}(h:w.ownsRow base e 1 v n xs):∃a cap,v=.slice a n cap/\n<=cap:=by
 rcases h.2 with ⟨h1,h2⟩|⟨g,cap,cur,h1,_,_,h2,_⟩
 ·exact⟨none,0,by rw[h1,h2],by omega⟩
 ·exact⟨_,cap,h1,h2⟩
theorem zcQ{k:IntKind}{w:World}{base g n cap:Nat}{e:TypeId}{ds:List Nat}(h:w.ownsRow base e 1 (.slice (some ⟨g,0,none⟩) n cap) n (zV k ds))(j x:Nat):(w.setCell ⟨g,j,none⟩ (.int k (x:Int))).ownsRow base e 1 (.slice (some ⟨g,0,none⟩) n cap) n (zV k (ds.set j x)):=by
 rw[<-znq];exact(h.stored j _).1
theorem zde{w w':World}{base:Nat}{e:TypeId}{size:Nat}{v:Value}{n:Nat}{xs:List Value}(h:w.ownsRow base e size v n xs)(hb:zB w w'):w'.ownsRow base e size v n xs:=by
 obtain⟨h1,h2⟩:=h;refine⟨h1,?_⟩;rcases h2 with h2|⟨g,cap,cur,hv,hg,hh,r⟩
 ·exact Or.inl h2
 ·have hlt:g<w.heap.size:=by
   by_cases hlt:g<w.heap.size
   ·exact hlt
   ·rw[Array.getElem?_eq_none (by omega)] at hh;simp at hh
  exact Or.inr ⟨g,cap,cur,hv,hg,by rw[hb.block g hlt];exact hh,r⟩
theorem Dig.of_owns{k:IntKind}{w:World}{base:Nat}{e:TypeId}{v:Value}{ds:List Nat}(h:w.ownsRow base e 1 v ds.length (zV k ds)):Dig k w v ds:=by
 rcases h.2 with ⟨h1,h2⟩|⟨g,cap,cur,h1,hb,hg,h2,_⟩
 ·obtain rfl:ds=[]:=List.length_eq_zero_iff.1 h2;rw[h1];exact Dig.nil k w
 ·subst h1;refine⟨_,cap,rfl,h2,fun i hi=>⟨g,0,rfl,?_,?_⟩⟩
  ·by_cases hlt:g<w.heap.size
   ·exact hlt
   ·rw[Array.getElem?_eq_none (by omega)] at hg;simp at hg
  ·rw[Nat.zero_add,h.cellAt i (by omega),Yg k ds i hi]
theorem Ks{w:World}{b off:Nat}(o:Obj)(h:b<w.heap.size):(w.alloc o).cell? ⟨b,off,none⟩=w.cell? ⟨b,off,none⟩ :=
 ((Below.refl w.heap.size w).alloc zN o).cell (p:=⟨b,off,none⟩) h
theorem Z5(w:World)(A:Value)(t:TypeId):(w.alloc (.cells #[A] t)).cell? ⟨w.heap.size,0,none⟩=some A:=by simp
theorem Xe(w:World)(A:Value)(t:TypeId):(w.alloc (.cells #[A] t)).frozen? ⟨w.heap.size,0,none⟩=false:=by simp
theorem za7(w:World)(A:Value)(t:TypeId)(o:Obj):((w.alloc (.cells #[A] t)).alloc o).cell? ⟨w.heap.size,0,none⟩=some A:=by
 rw[Ks o (by simp),Z5]
theorem Kd(w:World)(A:Value)(t:TypeId)(o:Obj):((w.alloc o).alloc (.cells #[A] t)).cell? ⟨w.heap.size+1,0,none⟩=some A:=by
 have:=Z5 (w.alloc o) A t;rwa [World.size_alloc] at this
theorem Js(w:World)(A:Value)(t:TypeId)(o:Obj):((w.alloc o).alloc (.cells #[A] t)).frozen? ⟨w.heap.size+1,0,none⟩=false:=by
 have:=Xe (w.alloc o) A t;rwa [World.size_alloc] at this
theorem zla(w:World)(A:Value)(t:TypeId)(o p:Obj):(((w.alloc (.cells #[A] t)).alloc o).alloc p).cell? ⟨w.heap.size,0,none⟩=some A:=by
 rw[Ks p (by simp;omega),za7]
theorem zlC(w:World)(A:Value)(t:TypeId)(o p:Obj):(((w.alloc o).alloc (.cells #[A] t)).alloc p).cell? ⟨w.heap.size+1,0,none⟩=some A:=by
 rw[Ks p (by simp),Kd]
theorem zi4(w:World)(A:Value)(t:TypeId)(o p:Obj):(((w.alloc o).alloc p).alloc (.cells #[A] t)).cell? ⟨w.heap.size+1+1,0,none⟩=some A:=by
 have:=Kd (w.alloc o) A t p;rwa [World.size_alloc] at this
theorem znr(w:World)(A:Value)(t:TypeId)(o p:Obj):(((w.alloc o).alloc p).alloc (.cells #[A] t)).frozen? ⟨w.heap.size+1+1,0,none⟩=false:=by
 have:=Js (w.alloc o) A t p;rwa [World.size_alloc] at this
theorem mixed:Tryz.prog.follows .mixedOrders=true:=by kernel_rfl
theorem J7{x:Int}(h0:0<=x)(h1:x<=18446744073709551615):IntKind.u64.wrap x=x:=IntWalk.u64_in x ⟨h0,h1⟩
theorem zas(v:Value)(ds:List Nat)(i:Nat)(w:World)(hd:Dig .u64 w v ds)(_hi:i<=1000000)(_hl:ds.length<=1000000) :
  zR 157 #[.agg #[v],.int .i64 i] w (.int .u64 ((dig ds i:Nat):Int)):=by
 obtain⟨a,cap,rfl,hc,hcell⟩:=hd
 by_cases hlt:i<ds.length
 ·obtain⟨b,off,rfl,hb,hcl⟩:=hcell i hlt;have hne:¬b=w.heap.size:=by omega
  clear hcell;generalize dig ds i=d at *;go_enter Tryz.func157,Tryz.ntmps157;go_wp2;go_ret;exact⟨rfl,zF.alloc zN _⟩
 ·have hz:=zae ds i (by omega);rw[hz];clear hcell hz;go_enter Tryz.func157,Tryz.ntmps157;go_wp2;go_ret;exact⟨rfl,zF.alloc zN _⟩
end Bd
namespace Bd
open Go.RowKit Go.Maps
structure NV where
 a:Option Addr
 n:Nat
 c:Nat
def NV.val(x:NV):Value:=.agg #[.slice x.a x.n x.c]
def NV.dat(x:NV):DataW Unit :=
 match x.a with
 |none=>.agg [.lit (.int .i64 x.n),.lit (.int .i64 x.c)]
 |some ⟨b,o,none⟩=>.agg [.lit (.int .i64 x.n),.lit (.int .i64 x.c),.lit (.int .i64 b),.lit (.int .i64 o)]
 |some ⟨b,o,some s⟩=>.agg [.lit (.int .i64 x.n),.lit (.int .i64 x.c),.lit (.int .i64 b),.lit (.int .i64 o),.lit (.int .i64 s)]
theorem NV.dat_inj{x y:NV}(h:x.dat=y.dat):x=y:=by
 obtain⟨a,n,c⟩:=x;obtain⟨b,m,d⟩:=y;rcases a with _|⟨ab,ao,_|sa⟩<;>rcases b with _|⟨bb,bo,_|sb⟩<;>simp[NV.dat] at h ⊢<;>omega
def Qn(v:Value):Option (DataW Unit × List MemPlace) :=
 match v with
 |.agg cs =>
  match cs.toList with
  |[.slice a n c]=>some (NV.dat ⟨a,n,c⟩,[])
  |_=>none
 |_=>none
theorem zaR(x:NV):Qn x.val=some (x.dat,[]):=rfl
theorem zek{v:Value}{x:NV}{ps:List MemPlace}(h:Qn v=some (x.dat,ps)):v=x.val:=by
 unfold Qn at h;split at h
 ·rename_i cs;split at h
  ·rename_i a n c e;simp only[Option.some.injEq,Prod.mk.injEq] at h;rw[<-NV.dat_inj h.1];have:cs=#[.slice a n c]:=by cases cs;simp at e;rw[e]
   rw[this];rfl
  ·cases h
 ·cases h
theorem zeA(w:World):(zeroValue 56).run Tryz.prog w=.ok (.agg #[.slice none 0 0]) w:=by kernel_rfl
def YT(D:DataW Unit)(L:List (Int × NV)):Prop:=Rep I64 (fun x=>Lit.int .i64 x) NV.dat D L
section
variable {w:World} {bm n:Nat} {D:DataW Unit} {L:List (Int × NV)}
theorem zjS(hD:w.ownsMap Tryz.prog 3 Qn bm n D)(hR:YT D L){p:Int × NV}(hp:p∈L) :
  (Instr.lookup 119 (.map (some bm)) (.int .i64 p.1) true).run Tryz.prog w=.ok (.tuple #[p.2.val,.bool true]) w:=by
 obtain⟨v,ps,hrun,hv⟩:=hD.look_ok QQ Tryz.underlying119 (zeA w) (zaR ⟨none,0,0⟩) (QA (Rep.oks hR p hp));rw[Rep.at' hR p hp] at hv;rw[(Rep.has hR p.1 (Rep.oks hR p hp)).2 (List.mem_map_of_mem hp),zek hv] at hrun;exact hrun
theorem zmH(hD:w.ownsMap Tryz.prog 3 Qn bm n D)(hR:YT D L){a:Int}(ha:I64 a)(hn:a∉L.map Prod.fst) :
  (Instr.lookup 119 (.map (some bm)) (.int .i64 a) true).run Tryz.prog w=.ok (.tuple #[.agg #[.slice none 0 0],.bool false]) w:=by
 obtain⟨v,ps,hrun,hv⟩:=hD.look_ok QQ Tryz.underlying119 (zeA w) (zaR ⟨none,0,0⟩) (QA ha);have hh:=Rep.not hR ha hn;rw[atKey_of_not_has hh] at hv;rw[hh,zek hv] at hrun;exact hrun
end
end Bd
namespace Bd
open Go.RowKit Num Go.Sort
theorem Dig.take{k:IntKind}{w:World}{a:Option Addr}{cap n:Nat}{ds:List Nat}(h:Dig k w (.slice a ds.length cap) ds)(hn:n<=ds.length):Dig k w (.slice a n cap) (ds.take n):=by
 obtain⟨a',cap',hv,hc,hi⟩:=h;cases hv;have hl:(ds.take n).length=n:=by rw[List.length_take,Nat.min_eq_left hn]
 refine⟨a,cap,by rw[hl],by omega,fun i hlt=>?_⟩;rw[hl] at hlt;obtain⟨b,off,ha,hb,hcell⟩:=hi i (by omega);exact⟨b,off,ha,hb,by rw[Kt,if_pos hlt];exact hcell⟩
theorem Dig.setCell{k:IntKind}{w:World}{v:Value}{ds:List Nat}{B:Nat}(h:Dig k w v ds)(hb:w.heap.size<=B){W:World}(hW:zB w W)(u:Value):Dig k (W.setCell ⟨B,0,none⟩ u) v ds :=
 h.below (hW.setCell hb u)
theorem zcI(v:Value)(ds:List Nat)(w:World)(hd:Dig .u64 w v ds)(sm:∀i,dig ds i<1000000000)(hl:ds.length<=100000) :
  zC 158 #[v] w fun e w'=>∃v',e=.returned (.agg #[v'])/\∃ds',Dig .u64 w' v' ds'/\xJ 1000000000 ds'/\val 1000000000 ds'=val 1000000000 ds/\ds'.length<=ds.length/\zB w w':=by
 obtain⟨a,cap,hv,hc,hcell⟩:=id hd;subst hv;have HC:Hid (∀i,i<ds.length->∃b off,a=some ⟨b,off,none⟩/\b<w.heap.size/\w.cell? ⟨b,off+i,none⟩=some (.int .u64 ((dig ds i:Nat):Int))):=hcell;clear hcell;go_enter Tryz.func158,Tryz.ntmps158;go_wp2_with fail;go_loop [3] (fun n=>∃k:Nat,k<=ds.length/\n=.int .i64 k/\∀i,k<=i->dig ds i=0) (fun n=>(intOf n).toNat)
 case atStart=>exact⟨ds.length,Nat.le_refl _,rfl,fun i hi=>zae ds i hi⟩
 case round =>
  obtain⟨k,hk,rfl,hz⟩:=hrel;have HZ:Hid (∀i,k<=i->dig ds i=0):=hz;clear hz
  by_cases h0:k=0
  ·subst h0;have hx:=zcs (B:=1000000000) (k:=0) (by omega) sm (Nat.zero_le _) (fun h=>absurd rfl h);have hval:=zev (B:=1000000000) (k:=0) (Nat.zero_le _) HZ.out;have hnil:ds.take 0=[]:=rfl;rw[hnil] at hx hval;go_wp2;refine bodyPost_ret (v:=.agg #[.slice none 0 0]) (by simp[results,Tryz.results158,go_sem]) rfl ?_;exact⟨_,rfl,[],Dig.nil _ _,hx,hval,Nat.zero_le _,zF.alloc zN _⟩
  ·obtain⟨j,rfl⟩:∃j,k=j+1:=⟨k-1,by omega⟩;obtain⟨b,off,ha,hb,hcl⟩:=HC.out j (by omega);subst ha;have hne:¬b=w.heap.size:=by omega
   have hj:=sm j
   by_cases hzj:dig ds j=0
   ·rw[hzj] at hcl;go_wp2;go_round
    case rel =>
     refine⟨j,by omega,by go_num,fun i hi=>?_⟩
     by_cases e:i=j
     ·rw[e];exact hzj
     ·exact HZ.out i (by omega)
    case measure=>simp[intOf]
   ·have hbq:(((dig ds j:Nat):Int)==0)=false:=by rw[beq_eq_false_iff_ne];omega
    have hx:=zcs (B:=1000000000) (k:=j+1) (by omega) sm hk (fun _=>hzj);have hval:=zev (B:=1000000000) hk HZ.out;have hDt:=Dig.take hd hk;clear hzj;go_wp2;refine bodyPost_ret (v:=.agg #[.slice (some ⟨b,off,none⟩) (j+1) cap]) (by simp[results,Tryz.results158,go_sem]) rfl ?_;exact⟨_,rfl,ds.take (j+1),hDt.below (zF.alloc zN _),hx,hval,by rw[List.length_take];omega,zF.alloc zN _⟩
end Bd
namespace Bd
open Go.RowKit Num Go.Sort
theorem KG:(Tryz.prog.info? 122).map (fun i=>(i.zero,i.size,i.bytes))=some (some (.int .u64 0),1,8):=by kernel_rfl
theorem znf(n:Int)(w:World)(h0:-9223372036854775808<=n)(h1:n<=9223372036854775807) :
  zC 117 #[.int .i64 n] w fun e w'=>∃v,e=.returned (.agg #[v])/\∃ds,Dig .u64 w' v ds/\xJ 1000000000 ds/\val 1000000000 ds=n.toNat/\zB w w':=by
 obtain⟨i0,hi,hz0,hz1,hz2⟩:=info_parts KG;go_enter Tryz.func117,Tryz.ntmps117;go_wp2_with fail;go_loopw [0,3] (fun i v wr=>∃(ds:List Nat) (m:Int) (a:Option Addr) (cap:Nat),i=.int .i64 m/\v=.slice a ds.length cap/\-9223372036854775808<=m/\m<=9223372036854775807/\(∀i,dig ds i<1000000000)/\(m<=0->ds.length≠0->dig ds (ds.length-1)≠0)/\val 1000000000 ds+m.toNat*1000000000^ds.length=n.toNat/\wr.ownsRow (w.heap.size+1) 122 1 (.slice a ds.length cap) ds.length (zV .u64 ds)/\Below (w.heap.size+1) (w.alloc (.cells #[.slice none 0 0] 56)) wr)
   (fun i _ _=>(intOf i).toNat)
 case atStart=>exact⟨[],n,none,0,rfl,rfl,h0,h1,fun i=>by rw[zkX];omega,fun _ h=>absurd rfl h,by simp[zet],World.ownsRow_nil _ _ _ _,Below.refl _ _⟩
 case round =>
  obtain⟨ds,m,a,cap,rfl,rfl,hm0,hm1,hsm,hlast,hval,hown,hbel⟩:=hrel;have HV:=hval
  by_cases hpos:0<m
  ·obtain⟨m,rfl⟩:=Int.eq_ofNat_of_zero_le (show 0<=m by omega);rw[Int.toNat_natCast] at hval;have hlen:=zjF (by omega) (by omega) hval;have hsz:=hbel.size;simp only[World.size_alloc] at hsz;go_wp2_with (at_builtin;refine wpList_append_own _ rfl _ _ 54 rfl (w.heap.size+1) 122 i0 (.int .u64 0) 1 8 Tryz.underlying54 hi hz0 hz1 hz2 rfl (by decide) _ _ _ rfl (hown.alloc _) ⟨wr.heap.size,0,none⟩ 1 1 [.int .u64 ((m:Int)%1000000000)] rfl rfl ?c1 ?c2 ?c3 ?c4 ?c5 ?_)
   case c1=>exact cell_one_new _ _ _
   case c2=>intro u hu;simp at hu;subst hu;rfl
   case c3=>unfold maxLen;omega
   case c4=>omega
   case c5=>simp;omega
   ·intro v' w1 hown' hgrow _;have hbel':Below (w.heap.size+1) (w.alloc (.cells #[.slice none 0 0] 56)) w1:=(hbel.alloc (by omega) _).grown hgrow (by simp;omega) (fun k hk=>(hown.lt k hk).1);obtain⟨a',cap',hv,-⟩:=zha hown';clear hown hgrow hbel;go_wp2;go_roundw
    case rel =>
     refine⟨ds++[m%1000000000],((m/1000000000:Nat):Int),a',cap',by go_num,by rw[hv];simp,by omega,by omega,zjB hsm (by omega),fun h _=>?_,?_,?_,hbel'⟩
     ·rw[zlO];omega
     ·rw[Int.toNat_natCast];exact zne hval
     ·rw[hv] at hown';rw[Xw];simpa using hown'
    case measure=>simp[intOf];omega
  ·have hc:wr.cell? ⟨w.heap.size,0,none⟩=some (.slice none 0 0):=(hbel.cell (p:=⟨w.heap.size,0,none⟩) (by simp)).trans (by simp);have hf:wr.frozen? ⟨w.heap.size,0,none⟩=false:=(hbel.frozen (p:=⟨w.heap.size,0,none⟩) (by simp)).trans (by simp);have hcs:(wr.setCell ⟨w.heap.size,0,none⟩ (.slice a ds.length cap)).cell? ⟨w.heap.size,0,none⟩=some (.slice a ds.length cap):=World.cell?_setCell_same' _ _ _ (by simp[hc]);go_wp2;refine bodyPost_ret (v:=.agg #[.slice a ds.length cap]) (by simp[results,Tryz.results117,go_sem,hcs]) rfl ?_;refine⟨.slice a ds.length cap,rfl,ds,Dig.of_owns (ownsRow_setCell_below hown (Nat.lt_succ_self _) _),⟨hsm,hlast (by omega)⟩,?_,?_⟩
   ·have:m.toNat=0:=by omega
    rw[this] at hval;simpa using hval
   ·exact((zF.alloc zN _).trans (hbel.mono (by omega))).setCell zN _
end Bd
namespace Bd
open Go.RowKit Num Go.Sort
theorem zhp(va vb:Value)(a b:List Nat)(w:World)(ha:Dig .u64 w va a)(hb:Dig .u64 w vb b)(na:∀i,dig a i<1000000000)(nb:∀i,dig b i<1000000000)(la:a.length<=5000)(lb:b.length<=5000) :
  zC 118 #[.agg #[va],.agg #[vb]] w fun e w'=>∃v',e=.returned (.agg #[v'])/\∃ds',Dig .u64 w' v' ds'/\xJ 1000000000 ds'/\val 1000000000 ds'=val 1000000000 a+val 1000000000 b/\ds'.length<=max a.length b.length+1/\zB w w':=by
 obtain⟨aa,ca,eva,hca,hcella⟩:=id ha;obtain⟨ab,cb,evb,hcb,hcellb⟩:=id hb;subst eva evb;clear hcella hcellb hca hcb;obtain⟨m,hm,hmx,hma,hmb,hml⟩:∃m:Nat,max (a.length:Int) (b.length:Int)=(m:Int)/\max a.length b.length=m/\a.length<=m/\b.length<=m/\m<=5000:=⟨max a.length b.length,by omega,rfl,by omega,by omega,by omega⟩;rw[hmx];clear hmx;obtain⟨i0,hi,hz0,hz1,hz2⟩:=info_parts KG;go_enter Tryz.func118,Tryz.ntmps118;go_wp2_with (at_make;refine wpList_make_full _ rfl _ _ 54 rfl (w.heap.size+3) 122 i0 (.int .u64 0) 1 Tryz.underlying54 hi hz0 hz1 .i64 .i64 _ _ (m+1) rfl rfl ?c1 ?c2 ?c3 ?c4 ?c5 ?_)
 case c1=>omega
 case c2=>omega
 case c3=>rw[hz2];omega
 case c4=>unfold maxLen;omega
 case c5=>simp
 intro w1 hown hgrow;rw[zd4] at hown;have hbel:Below (w.heap.size+3) (((w.alloc (.cells #[.slice aa a.length ca] 56)).alloc (.cells #[.slice ab b.length cb] 56)).alloc (.cells #[.slice none 0 0] 56)) w1:=zF.grown hgrow (by simp) (fun k hk=>by cases hk);clear hgrow hm;go_wp2_with fail;go_loopw [7,21] (fun cv i wr=>∃(k c:Nat) (out:List Nat),k<=m+1/\i=.int .i64 k/\cv=.int .u64 c/\c<=1/\out.length=m+1/\(∀i,dig out i<1000000000)/\S 1000000000 (dig out) k+c*1000000000^k=S 1000000000 (dig a) k+S 1000000000 (dig b) k/\wr.ownsRow (w.heap.size+3) 122 1 (.slice (some ⟨w.heap.size+1+1+1,0,none⟩) (m+1) (m+1)) (m+1) (zV .u64 out)/\Below (w.heap.size+3) (((w.alloc (.cells #[.slice aa a.length ca] 56)).alloc (.cells #[.slice ab b.length cb] 56)).alloc (.cells #[.slice none 0 0] 56)) wr)
  (fun _ i _=>m+1-(intOf i).toNat)
 case atStart=>exact⟨0,0,List.replicate (m+1) 0,Nat.zero_le _,rfl,rfl,Nat.zero_le _,by simp,fun i=>by rw[zc9];omega,by simp[S],hown,hbel⟩
 case round =>
  obtain⟨k,c,out,hk,rfl,rfl,hc1,hol,hsm,hS,hownr,hbelr⟩:=hrel;have HSm:Hid (∀i,dig out i<1000000000):=hsm;have HS:Hid (S 1000000000 (dig out) k+c*1000000000^k=S 1000000000 (dig a) k+S 1000000000 (dig b) k):=hS;have HO:Hid (out.length=m+1):=hol;clear hsm hS hown hbel hol;have hbw:zB w wr:=(((zF.alloc zN _).alloc (by simp) _).alloc (by simp;omega) _).trans (hbelr.mono (by omega));have hsz:=hbelr.size;simp only[World.size_alloc] at hsz
  by_cases hlt:k<m+1
  ·have c0:wr.cell? ⟨w.heap.size,0,none⟩=some (.slice aa a.length ca):=(hbelr.cell (p:=⟨w.heap.size,0,none⟩) (by show w.heap.size<_;omega)).trans (zla _ _ _ _ _);have c1:wr.cell? ⟨w.heap.size+1,0,none⟩=some (.slice ab b.length cb):=(hbelr.cell (p:=⟨w.heap.size+1,0,none⟩) (by show w.heap.size+1<_;omega)).trans (zlC _ _ _ _ _);have k0:=cell_regrown c0;have k1:=cell_regrown c1;have cA:∀d os,zC 157 #[.agg #[.slice aa a.length ca],.int .i64 k] (grow (redrawn wr d) os) fun e w''=>e=.returned (.int .u64 ((dig a k:Nat):Int))/\∃p:Regrown,w''=grow (redrawn wr p.d) p.os:=fun d os =>
    Calls.regrown_of (zas _ a k (grow (redrawn wr d) os) (ha.below (hbw.trans ((below_regrown wr d os).mono hbw.size))) (by omega) (by omega))
   have cB:∀d os,zC 157 #[.agg #[.slice ab b.length cb],.int .i64 k] (grow (redrawn wr d) os) fun e w''=>e=.returned (.int .u64 ((dig b k:Nat):Int))/\∃p:Regrown,w''=grow (redrawn wr p.d) p.os:=fun d os =>
    Calls.regrown_of (zas _ b k (grow (redrawn wr d) os) (hb.below (hbw.trans ((below_regrown wr d os).mono hbw.size))) (by omega) (by omega))
   have hx:=na k;have hy:=nb k;have e1:IntKind.u64.wrap (((dig a k:Nat):Int)+((dig b k:Nat):Int))=((dig a k:Nat):Int)+((dig b k:Nat):Int):=J7 (by omega) (by omega);have e2:IntKind.u64.wrap (((dig a k:Nat):Int)+((dig b k:Nat):Int)+(c:Int))=((dig a k:Nat):Int)+((dig b k:Nat):Int)+(c:Int):=J7 (by omega) (by omega);go_wp2_with fail;refine wp_region_quiet_below mixed (by kernel_rfl) ?_
   repeat(quiet_step (first|(go_at_call_of 157 aa;exact cA _ _)|(go_at_call_of 157 ab;exact cB _ _)))
   refine wpQuiet_nil ?_;intro _ hw';obtain⟨⟨dq,osq⟩,hw''⟩:=hw';subst hw'';clear cA cB k0 k1 c0 c1;have hbq:=below_regrown wr dq osq;generalize grow (redrawn wr dq) osq=wq at *;have hownq:=zde hownr hbq;have hbelq:=hbelr.trans (hbq.mono (by omega));have HA:Hid (dig a k=dig a k):=rfl;clear hownr hbelr hbq hbw e1 e2;generalize hdx:dig a k=x at *;generalize hdy:dig b k=y at *;have HX:Hid (dig a k=x):=hdx;have HY:Hid (dig b k=y):=hdy;clear hdx hdy HA;have hcell:=hownq.cellAt k (by omega);rw[Yg .u64 out k (by have:=HO.out;omega)] at hcell;have hfr:=hownq.frozenAt k;go_wp2;go_roundw
   case rel =>
    have e3:((x:Int)+y+c)%1000000000=(((x+y+c)%1000000000:Nat):Int):=by omega
    have e4:((x:Int)+y+c)/1000000000=(((x+y+c)/1000000000:Nat):Int):=by omega
    have hkl:k<out.length:=by have:=HO.out;omega
    rw[e3,e4];refine⟨k+1,(x+y+c)/1000000000,out.set k ((x+y+c)%1000000000),by omega,by go_num,rfl,by omega,by rw[List.length_set];exact HO.out,zbS hkl HSm.out (by omega),zmA hkl HS.out HX.out HY.out,zcQ hownq k _,hbelq.setCell (by show _<=w.heap.size+1+1+1;omega) _⟩
   case measure=>simp[intOf];omega
  ·obtain rfl:k=m+1:=by omega
   have hva:=QU 1000000000 a (m+1) (by omega);have hvb:=QU 1000000000 b (m+1) (by omega);have hvo:=QU 1000000000 out (m+1) (by have:=HO.out;omega);have hE:=HS.out;rw[hva,hvb,hvo] at hE;have b1:val 1000000000 a<1000000000^m:=by
    rw[<-QU 1000000000 a m hma];exact Ka _ _ _ na
   have b2:val 1000000000 b<1000000000^m:=by
    rw[<-QU 1000000000 b m hmb];exact Ka _ _ _ nb
   have hc0:=zdO hE (by rw[Nat.pow_succ];omega);subst hc0;have HVO:Hid (val 1000000000 out=val 1000000000 a+val 1000000000 b):=by show _=_;omega
   clear hva hvb hvo hE b1 b2;rw[show m+1=out.length from HO.out.symm] at hownr;have hD:=Dig.of_owns hownr;rw[HO.out] at hD;clear hownr;go_wp2_with fail;refine(zcI _ out _ hD HSm.out (by have:=HO.out;omega)).mono ?_;rintro e w2 ⟨v2,rfl,ds2,hd2,hn2,hv2,hl2,hb2⟩;obtain⟨a2,cap2,ev2,-,-⟩:=id hd2;subst ev2;have hb3:Below (w.heap.size+3) (((w.alloc (.cells #[.slice aa a.length ca] 56)).alloc (.cells #[.slice ab b.length cb] 56)).alloc (.cells #[.slice none 0 0] 56)) w2:=hbelr.trans (hb2.mono (by omega));have hc:w2.cell? ⟨w.heap.size+1+1,0,none⟩=some (.slice none 0 0):=(hb3.cell (p:=⟨w.heap.size+1+1,0,none⟩) (by show w.heap.size+1+1<_;omega)).trans (zi4 _ _ _ _ _);have hf:w2.frozen? ⟨w.heap.size+1+1,0,none⟩=false:=(hb3.frozen (p:=⟨w.heap.size+1+1,0,none⟩) (by show w.heap.size+1+1<_;omega)).trans (znr _ _ _ _ _);have hcs:(w2.setCell ⟨w.heap.size+1+1,0,none⟩ (.slice a2 ds2.length cap2)).cell? ⟨w.heap.size+1+1,0,none⟩=some (.slice a2 ds2.length cap2):=World.cell?_setCell_same' _ _ _ (by simp[hc]);go_wp2;refine bodyPost_ret (v:=.agg #[.slice a2 ds2.length cap2]) (by simp[results,Tryz.results118,go_sem,hcs]) rfl ?_;refine⟨_,rfl,ds2,hd2.set hc (fun n h=>by cases h) _,hn2,by rw[hv2];exact HVO.out,by have:=HO.out;omega,?_⟩;exact((((zF.alloc zN _).alloc (by simp) _).alloc (by simp;omega) _).trans (hb3.mono (by omega))).setCell (by show _<=w.heap.size+1+1;omega) _
end Bd
namespace Bd
open Go.RowKit Num Go.Sort
theorem JJ(v:Value)(ds:List Nat)(w:World)(hd:Dig .u64 w v ds)(hl:ds.length<=100000) :
  zC 119 #[v] w fun e w'=>∃v',e=.returned v'/\Dig .u64 w' v' ds/\zB w w':=by
 obtain⟨a,cap,hv,hc,hcell⟩:=id hd;subst hv;obtain⟨i0,hi,hz0,hz1,hz2⟩:=info_parts KG;have hq:=fun (x:Option Addr) (n c:Nat) (W:World)=>Lib.run_eql_slice_nil (P:=Tryz.prog) W 54 122 x n c 0 0 Tryz.underlying54;cases a with
 |none =>
  have h0:ds.length=0:=by
   by_cases h:ds.length=0
   ·exact h
   ·obtain⟨b,off,e,-⟩:=hcell 0 (by omega);cases e
  obtain rfl:ds=[]:=List.length_eq_zero_iff.1 h0;clear hcell hd;go_enter Tryz.func119,Tryz.ntmps119;go_wp2;go_ret;exact⟨_,rfl,Dig.nil _ _,Below.refl _ _⟩
 |some ad =>
  go_enter Tryz.func119,Tryz.ntmps119;go_wp2_with (at_builtin;refine wpList_append_own _ rfl _ _ 54 rfl w.heap.size 122 i0 (.int .u64 0) 1 8 Tryz.underlying54 hi hz0 hz1 hz2 rfl (by decide) _ _ _ rfl (World.ownsRow_lit w #[] 0 zN (by unfold maxLen;omega) rfl) ad ds.length cap (zV .u64 ds) rfl ?c0 ?c1 ?c2 ?c3 ?c4 ?c5 ?_)
  case c0=>simp[zdJ]
  case c1 =>
   intro j u hj;have hjl:j<ds.length:=by
    have h5:=(List.getElem?_eq_some_iff.1 hj).1
    rwa [zdJ] at h5
   obtain⟨b,off,e,hb,hcl⟩:=hcell j hjl;cases e;rw[Yg .u64 ds j hjl] at hj;cases hj;rw[show (⟨b,off,none⟩:Addr).add j=⟨b,off+j,none⟩ by simp[Addr.add]];exact(Ks (off:=off+j) _ hb).trans hcl
  case c2=>intro u hu;simp only[zV,List.mem_map] at hu;obtain⟨x,_,rfl⟩:=hu;rfl
  case c3=>unfold maxLen;omega
  case c4=>omega
  case c5=>simp
  intro v' w1 hown hgrow _;have hb1:zB w w1:=(zF.alloc zN _).grown hgrow (by simp) (fun k hk=>by cases hk;exact Nat.le_refl _);have hD:Dig .u64 w1 v' ds:=Dig.of_owns (by simpa using hown);clear hown hgrow hcell;go_wp2;go_ret;exact⟨v',rfl,hD,hb1⟩
theorem zkm(va:Value)(a:List Nat)(t:Nat)(w:World)(ha:Dig .u64 w va a)(na:∀i,dig a i<1000000000)(la:a.length<=5000)(ht:t<=30) :
  zC 120 #[.agg #[va],.int .i64 t] w fun e w'=>∃v',e=.returned (.agg #[v'])/\∃ds',Dig .u64 w' v' ds'/\xJ 1000000000 ds'/\val 1000000000 ds'=val 1000000000 a*2^t/\ds'.length<=a.length+2/\zB w w':=by
 obtain⟨aa,ca,eva,hca,hcella⟩:=id ha;subst eva;clear hcella hca;obtain⟨i0,hi,hz0,hz1,hz2⟩:=info_parts KG;go_enter Tryz.func120,Tryz.ntmps120;go_wp2_with (at_make;refine wpList_make_full _ rfl _ _ 54 rfl (w.heap.size+2) 122 i0 (.int .u64 0) 1 Tryz.underlying54 hi hz0 hz1 .i64 .i64 _ _ (a.length+2) rfl rfl ?c1 ?c2 ?c3 ?c4 ?c5 ?_)
 case c1=>omega
 case c2=>omega
 case c3=>rw[hz2];omega
 case c4=>unfold maxLen;omega
 case c5=>simp
 intro w1 hown hgrow;rw[zd4] at hown;have hbel:Below (w.heap.size+2) ((w.alloc (.cells #[.slice aa a.length ca] 56)).alloc (.cells #[.slice none 0 0] 56)) w1:=zF.grown hgrow (by simp) (fun k hk=>by cases hk);clear hgrow;have hP:2^t<=1073741824:=Nat.pow_le_pow_right (i:=t) (j:=30) (by omega:2>0) ht;have hP1:1<=2^t:=Nat.one_le_pow _ _ (by omega);go_wp2_with fail;go_loopw [7,18] (fun cv i wr=>∃(k c:Nat) (out:List Nat),k<=a.length+2/\i=.int .i64 k/\cv=.int .u64 c/\c<=2^t/\out.length=a.length+2/\(∀i,dig out i<1000000000)/\S 1000000000 (dig out) k+c*1000000000^k=S 1000000000 (dig a) k*2^t/\wr.ownsRow (w.heap.size+2) 122 1 (.slice (some ⟨w.heap.size+1+1,0,none⟩) (a.length+2) (a.length+2)) (a.length+2) (zV .u64 out)/\Below (w.heap.size+2) ((w.alloc (.cells #[.slice aa a.length ca] 56)).alloc (.cells #[.slice none 0 0] 56)) wr)
  (fun _ i _=>a.length+2-(intOf i).toNat)
 case atStart=>exact⟨0,0,List.replicate (a.length+2) 0,Nat.zero_le _,rfl,rfl,Nat.zero_le _,by simp,fun i=>by rw[zc9];omega,by simp[S],hown,hbel⟩
 case round =>
  obtain⟨k,c,out,hk,rfl,rfl,hc1,hol,hsm,hS,hownr,hbelr⟩:=hrel;have HSm:Hid (∀i,dig out i<1000000000):=hsm;have HS:Hid (S 1000000000 (dig out) k+c*1000000000^k=S 1000000000 (dig a) k*2^t):=hS;have HO:Hid (out.length=a.length+2):=hol;clear hsm hS hown hbel hol;have hbw:zB w wr:=((zF.alloc zN _).alloc (by simp) _).trans (hbelr.mono (by omega));have hsz:=hbelr.size;simp only[World.size_alloc] at hsz
  by_cases hlt:k<a.length+2
  ·have c0:wr.cell? ⟨w.heap.size,0,none⟩=some (.slice aa a.length ca):=(hbelr.cell (p:=⟨w.heap.size,0,none⟩) (by show w.heap.size<_;omega)).trans (za7 _ _ _ _);go_wp2_with fail;refine(zas _ a k _ (ha.below hbw) (by omega) (by omega)).mono ?_;rintro e wq ⟨rfl,hbq⟩;have hownq:=zde hownr hbq;have hbelq:=hbelr.trans (hbq.mono (by omega));have hkl:k<out.length:=by have:=HO.out;omega
   clear hownr hbelr hbq hbw c0;have hx:=na k;generalize hdx:dig a k=x at *;have HX:Hid (dig a k=x):=hdx;clear hdx;have hcell:=hownq.cellAt k (by omega);rw[Yg .u64 out k hkl] at hcell;have hfr:=hownq.frozenAt k;obtain⟨z,hz⟩:∃z,z=x*2^t:=⟨_,rfl⟩;have hzb:x*2^t<=999999999*2^t:=Nat.mul_le_mul_right _ (by omega);have hzc:z+c<=1000000000*2^t:=by omega
   have hz1:z<=1073741824000000000:=by omega
   have hc2:c<=1073741824:=by omega
   have e0:IntKind.u64.wrap ((x:Int)*2^t)=(z:Int):=by
    have:(x:Int)*2^t=(z:Int):=by rw[hz,Int.natCast_mul,Int.natCast_pow];rfl
    rw[this];exact J7 (by omega) (by omega)
   have HZZ:Hid (z=x*2^t):=hz;have HZC:Hid (z+c<=1000000000*2^t):=hzc;have HPP:Hid (1<=2^t):=hP1;clear hz hzb hzc hP1 hP hc1;go_wp2;go_roundw
   case rel =>
    have e3:((z:Int)+c)%1000000000=(((x*2^t+c)%1000000000:Nat):Int):=by rw[<-HZZ.out];omega
    have e4:((z:Int)+c)/1000000000=(((x*2^t+c)/1000000000:Nat):Int):=by rw[<-HZZ.out];omega
    rw[e3,e4];refine⟨k+1,(x*2^t+c)/1000000000,out.set k ((x*2^t+c)%1000000000),by omega,by go_num,rfl,?_,by rw[List.length_set];exact HO.out,zbS hkl HSm.out (by omega),zl1 hkl HS.out HX.out,zcQ hownq k _,hbelq.setCell (by show _<=w.heap.size+1+1;omega) _⟩;rw[<-HZZ.out];have:=HZC.out;omega
   case measure=>simp[intOf];omega
  ·obtain rfl:k=a.length+2:=by omega
   have hva:=QU 1000000000 a (a.length+2) (by omega);have hvo:=QU 1000000000 out (a.length+2) (by have:=HO.out;omega);have hE:=HS.out;rw[hva,hvo] at hE;have b1:val 1000000000 a*2^t<1000000000^(a.length+2):=by
    have h1:=zfu na;have h2:val 1000000000 a*2^t<=val 1000000000 a*1073741824:=Nat.mul_le_mul_left _ hP;rw[Nat.pow_add];omega
   have hc0:=zdO hE b1;subst hc0;have HVO:Hid (val 1000000000 out=val 1000000000 a*2^t):=by show _=_;omega
   clear hva hvo hE b1 hP hP1 hc1;rw[show a.length+2=out.length from HO.out.symm] at hownr;have hD:=Dig.of_owns hownr;rw[HO.out] at hD;clear hownr;go_wp2_with fail;refine(zcI _ out _ hD HSm.out (by have:=HO.out;omega)).mono ?_;rintro e w2 ⟨v2,rfl,ds2,hd2,hn2,hv2,hl2,hb2⟩;obtain⟨a2,cap2,ev2,-,-⟩:=id hd2;subst ev2;have hb3:Below (w.heap.size+2) ((w.alloc (.cells #[.slice aa a.length ca] 56)).alloc (.cells #[.slice none 0 0] 56)) w2:=hbelr.trans (hb2.mono (by omega));have hc:w2.cell? ⟨w.heap.size+1,0,none⟩=some (.slice none 0 0):=(hb3.cell (p:=⟨w.heap.size+1,0,none⟩) (by show w.heap.size+1<_;omega)).trans (Kd _ _ _ _);have hf:w2.frozen? ⟨w.heap.size+1,0,none⟩=false:=(hb3.frozen (p:=⟨w.heap.size+1,0,none⟩) (by show w.heap.size+1<_;omega)).trans (Js _ _ _ _);have hcs:(w2.setCell ⟨w.heap.size+1,0,none⟩ (.slice a2 ds2.length cap2)).cell? ⟨w.heap.size+1,0,none⟩=some (.slice a2 ds2.length cap2):=World.cell?_setCell_same' _ _ _ (by simp[hc]);go_wp2;refine bodyPost_ret (v:=.agg #[.slice a2 ds2.length cap2]) (by simp[results,Tryz.results120,go_sem,hcs]) rfl ?_;refine⟨_,rfl,ds2,hd2.set hc (fun n h=>by cases h) _,hn2,by rw[hv2];exact HVO.out,by have:=HO.out;omega,?_⟩;exact(((zF.alloc zN _).alloc (by simp) _).trans (hb3.mono (by omega))).setCell (by show _<=w.heap.size+1;omega) _
theorem zk8(va:Value)(a:List Nat)(x:Int)(t:Nat)(w:World)(hx:x=(t:Int))(ha:Dig .u64 w va a)(na:∀i,dig a i<1000000000)(la:a.length<=5000)(ht:t<=30) :
  zC 120 #[.agg #[va],.int .i64 x] w fun e w'=>∃v',e=.returned (.agg #[v'])/\∃ds',Dig .u64 w' v' ds'/\xJ 1000000000 ds'/\val 1000000000 ds'=val 1000000000 a*2^t/\ds'.length<=a.length+2/\zB w w':=by
 subst hx;exact zkm va a t w ha na la ht
theorem zkO(va:Value)(a:List Nat)(times:Int)(w:World)(ha:Dig .u64 w va a)(na:xJ 1000000000 a)(la:a.length<=2000)(h0:-9223372036854775808<=times)(h1:times<=9223372036854775807) :
  zC 82 #[.agg #[va],.int .i64 times] w fun e w'=>∃v',e=.returned (.agg #[v'])/\∃ds',Dig .u64 w' v' ds'/\xJ 1000000000 ds'/\val 1000000000 ds'=val 1000000000 a*2^(min times 1000).toNat/\ds'.length<=a.length+68/\zB w w':=by
 obtain⟨aa,ca,eva,hca,hcella⟩:=id ha;subst eva;clear hcella hca;obtain⟨T,hT,hT1,hT0⟩:∃T:Int,min times 1000=T/\T<=1000/\-9223372036854775808<=T:=⟨_,rfl,by omega,by omega⟩;rw[hT];have hb2:zB w ((w.alloc (.cells #[.slice aa a.length ca] 56)).alloc (.cells #[.slice none 0 0] 56)):=(zF.alloc zN _).alloc (by simp) _;have HC:=JJ _ a _ (ha.below hb2) (by omega);clear hb2;go_enter Tryz.func82,Tryz.ntmps82;go_wp2_with fail;refine HC.mono ?_;rintro e w1 ⟨v1,rfl,hd1,hb1⟩;obtain⟨a1,cap1,ev1,-,-⟩:=id hd1;subst ev1;have hs1:=hb1.size;simp only[World.size_alloc] at hs1;have hb1':Below (w.heap.size+2) ((w.alloc (.cells #[.slice aa a.length ca] 56)).alloc (.cells #[.slice none 0 0] 56)) w1:=hb1.mono (by simp);clear HC hb1 ha;have hD0:Dig .u64 (w1.alloc (.cells #[.slice a1 a.length cap1] 56)) (.slice a1 a.length cap1) a:=hd1.below (zF.alloc zN _);have hB0:Below (w.heap.size+2) ((w.alloc (.cells #[.slice aa a.length ca] 56)).alloc (.cells #[.slice none 0 0] 56)) (w1.alloc (.cells #[.slice a1 a.length cap1] 56)):=hb1'.alloc (by omega) _;have hC0:=Z5 w1 (.slice a1 a.length cap1) 56;have hF0:=Xe w1 (.slice a1 a.length cap1) 56;have hZ0:w1.heap.size<(w1.alloc (.cells #[.slice a1 a.length cap1] 56)).heap.size:=by simp
 have HK:Hid (Dig .u64 (w1.alloc (.cells #[.slice a1 a.length cap1] 56)) (.slice a1 a.length cap1) a/\Below (w.heap.size+2) ((w.alloc (.cells #[.slice aa a.length ca] 56)).alloc (.cells #[.slice none 0 0] 56)) (w1.alloc (.cells #[.slice a1 a.length cap1] 56))/\(w1.alloc (.cells #[.slice a1 a.length cap1] 56)).cell? ⟨w1.heap.size,0,none⟩=some (.slice a1 a.length cap1)/\(w1.alloc (.cells #[.slice a1 a.length cap1] 56)).frozen? ⟨w1.heap.size,0,none⟩=false/\w1.heap.size<(w1.alloc (.cells #[.slice a1 a.length cap1] 56)).heap.size):=⟨hD0,hB0,hC0,hF0,hZ0⟩;clear hD0 hB0 hC0 hF0 hZ0 hd1 hb1';go_wp2_with fail;go_loopw [6] (fun lv wr=>∃(r:Nat) (ds:List Nat) (a2:Option Addr) (cap2:Nat),r<=34/\lv=.int .i64 (T-30*r)/\(0<r->-30<T-30*r)/\xJ 1000000000 ds/\ds.length<=a.length+2*r/\val 1000000000 ds=val 1000000000 a*2^(min (30*r) T.toNat)/\Dig .u64 wr (.slice a2 ds.length cap2) ds/\Below (w.heap.size+2) ((w.alloc (.cells #[.slice aa a.length ca] 56)).alloc (.cells #[.slice none 0 0] 56)) wr/\wr.cell? ⟨w1.heap.size,0,none⟩=some (.slice a2 ds.length cap2)/\wr.frozen? ⟨w1.heap.size,0,none⟩=false/\w1.heap.size<wr.heap.size)
  (fun lv _=>(intOf lv).toNat)
 case atStart=>exact⟨0,a,a1,cap1,by omega,by go_num,by omega,na,by omega,by simp,HK.out.1,HK.out.2.1,HK.out.2.2.1,HK.out.2.2.2.1,HK.out.2.2.2.2⟩
 case round =>
  obtain⟨r,ds,a2,cap2,hr,rfl,hr0,hnr,hlr,hvr,hdr,hbr,hcr,hfr,hzr⟩:=hrel;have HV:Hid (val 1000000000 ds=val 1000000000 a*2^(min (30*r) T.toNat)):=hvr;clear hvr HK
  by_cases hpos:0<T-30*r
  ·obtain⟨s,hs1,hs2⟩:∃s:Nat,min (T-30*(r:Int)) 30=(s:Int)/\s<=30:=⟨(min (T-30*(r:Int)) 30).toNat,by omega,by omega⟩;go_wp2_with fail;refine(zk8 _ ds _ s _ (by first|rfl|exact hs1) hdr hnr.small (by omega) hs2).mono ?_;rintro e w3 ⟨v3,rfl,ds3,hd3,hn3,hv3,hl3,hb3⟩;obtain⟨a3,cap3,ev3,-,-⟩:=id hd3;subst ev3;have hc3:w3.cell? ⟨w1.heap.size,0,none⟩=some (.slice a2 ds.length cap2):=(hb3.cell (p:=⟨w1.heap.size,0,none⟩) hzr).trans hcr;have hf3:w3.frozen? ⟨w1.heap.size,0,none⟩=false:=(hb3.frozen (p:=⟨w1.heap.size,0,none⟩) hzr).trans hfr;have hsr:=hbr.size;simp only[World.size_alloc] at hsr;have hb3':=hbr.trans (hb3.mono (by omega));have hs3:=hb3.size;have HV3:Hid (val 1000000000 ds3=val 1000000000 ds*2^s):=hv3;clear hbr hb3 hcr hfr hdr hv3;go_wp2;go_roundw
   case rel =>refine⟨r+1,ds3,a3,cap3,by omega,by go_num,by omega,hn3,by omega,?_,hd3.set hc3 (fun n h=>by cases h) _,hb3'.setCell (by show _<=w1.heap.size;omega) _,World.cell?_setCell_same' _ _ _ (by simp[hc3]),by simpa using hf3,by simp[World.setCell];omega⟩;rw[HV3.out,HV.out,Nat.mul_assoc,<-Nat.pow_add];congr 2;omega
   case measure=>simp[intOf];omega
  ·have hc:wr.cell? ⟨w.heap.size+1,0,none⟩=some (.slice none 0 0):=(hbr.cell (p:=⟨w.heap.size+1,0,none⟩) (by show w.heap.size+1<_;omega)).trans (Kd _ _ _ _);have hf:wr.frozen? ⟨w.heap.size+1,0,none⟩=false:=(hbr.frozen (p:=⟨w.heap.size+1,0,none⟩) (by show w.heap.size+1<_;omega)).trans (Js _ _ _ _);have hcs:(wr.setCell ⟨w.heap.size+1,0,none⟩ (.slice a2 ds.length cap2)).cell? ⟨w.heap.size+1,0,none⟩=some (.slice a2 ds.length cap2):=World.cell?_setCell_same' _ _ _ (by simp[hc]);have hmin:min (30*r) T.toNat=T.toNat:=by omega
   have HV2:Hid (val 1000000000 ds=val 1000000000 a*2^T.toNat):=by show _=_;rw[HV.out,hmin]
   clear hmin;go_wp2;refine bodyPost_ret (v:=.agg #[.slice a2 ds.length cap2]) (by simp[results,Tryz.results82,go_sem,hcs]) rfl ?_;refine⟨_,rfl,ds,hdr.set hc (fun n h=>by cases h) _,hnr,HV2.out,by omega,?_⟩;exact(((zF.alloc zN _).alloc (by simp) _).trans (hbr.mono (by omega))).setCell (by show _<=w.heap.size+1;omega) _
end Bd
end Go.Proofs.YtjmfeefogikdfaaGreatDoor
