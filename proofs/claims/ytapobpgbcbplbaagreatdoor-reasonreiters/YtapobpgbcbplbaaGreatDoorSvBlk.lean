/- Blocks of cells; what a round of a range over a function keeps. -/
import Derived.Test.YtapobpgbcbplbaaGreatDoorErAs
import Derived.PlainAid
import Derived.Lib.AppendIntMem
import Derived.RangeFuncNested
import Derived.Shelf.RegionOpen
import Derived.OwnWalkIn
import Derived.LoopNIn
import Derived.LoopIn
namespace Go.Proofs.YtapobpgbcbplbaaGreatDoor
set_option maxHeartbeats 4000000
set_option maxRecDepth 100000
section
open Go.RowKit Go.Extern.Stop Go.Stop Go.Extern
def xP(w:World):Prop:=w.cell? ⟨1,0,none⟩=some (.iface 244 (.agg #[.pointer (some ⟨10,41,none⟩)]))
theorem xP.lt{w:World}(h:xP w):1<w.heap.size:=by
 rcases Nat.lt_or_ge 1 w.heap.size with h1|h1
 ·exact h1
 ·unfold xP at h;simp[World.cell?,Array.getElem?_eq_none h1] at h
theorem xP.below{w w':World}(h:xP w)(hb:zB w w'):xP w':=(hb.cell (p:=⟨1,0,none⟩) h.lt).trans h
theorem ze4(n:Int)(w:World)(hg:xP w) :
  zR 26 #[.iface 64 (.int .i64 n)] w (.int .i64 n):=by
 have H:=Errs.as_hit n ⟨w.heap.size,0,none⟩ (.int .i64 0) (w.alloc (.cells #[.int .i64 0] 64)) (hg.below (zF.alloc zN _)) (Qr _ _ _) (KH _ _ _);go_enter Tryz.func26,Tryz.ntmps26;go_wp2_with fail;refine H.mono ?_;rintro e w' ⟨rfl,hw⟩;have hc:w'.cell? ⟨w.heap.size,0,none⟩=some (.int .i64 n):=by
  rw[hw];refine World.cell?_setCell_same' _ _ _ ?_;rw[World.cell?_alloc_lt _ _ ⟨w.heap.size,0,none⟩ (by simp;omega),World.cell?_alloc_lt _ _ ⟨w.heap.size,0,none⟩ (by simp;omega),World.cell?_alloc_lt _ _ ⟨w.heap.size,0,none⟩ (by simp;omega),World.cell?_alloc_lt _ _ ⟨w.heap.size,0,none⟩ (by simp),Qr];rfl
 have hb:zB w w':=by
  rw[hw];exact(((((zF.alloc zN _).alloc (by simp) _).alloc (by simp;omega) _).alloc (by simp;omega) _).alloc (by simp;omega) _).setCell zN _
 clear H hw;go_wp2;go_ret;exact⟨rfl,hb⟩
end
namespace Sv
def ALL:Nat:=1000000000
abbrev zh:=Nat × Nat
def mem(l:List zh)(n:Nat):Prop:=∃s∈l,s.1<=n/\n<s.2
theorem JJ(n:Nat):¬mem [] n:=fun⟨_,h,_⟩=>by cases h
theorem mem_cons{s:zh}{l:List zh}{n:Nat}:mem (s :: l) n↔(s.1<=n/\n<s.2)\/mem l n:=by
 unfold mem;constructor
 ·rintro⟨t,ht,h⟩;rcases List.mem_cons.1 ht with rfl|ht
  ·exact Or.inl h
  ·exact Or.inr ⟨t,ht,h⟩
 ·rintro (h|⟨t,ht,h⟩)
  ·exact⟨s,List.mem_cons_self,h⟩
  ·exact⟨t,List.mem_cons_of_mem _ ht,h⟩
def qW(lo:Nat):List zh->Prop
 |[]=>True
 |s :: r=>lo<=s.1/\s.1<s.2/\s.2<=ALL/\qW (s.2+1) r
theorem qW.mono{lo hi:Nat}{l:List zh}(h:qW hi l)(hh:lo<=hi):qW lo l:=by
 cases l with
 |nil=>trivial
 |cons s r=>exact⟨Nat.le_trans hh h.1,h.2⟩
theorem qW.ge{lo n:Nat}{l:List zh}(h:qW lo l)(hm:mem l n):lo<=n:=by
 induction l generalizing lo with
 |nil=>exact absurd hm (JJ n)
 |cons s r ih =>
  rcases mem_cons.1 hm with ⟨h1,_⟩|hm
  ·exact Nat.le_trans h.1 h1
  ·have:=ih h.2.2.2 hm;have:=h.1;have:=h.2.1;omega
theorem qW.lt{lo n:Nat}{l:List zh}(h:qW lo l)(hm:mem l n):n<ALL:=by
 induction l generalizing lo with
 |nil=>exact absurd hm (JJ n)
 |cons s r ih =>
  rcases mem_cons.1 hm with ⟨_,h1⟩|hm
  ·exact Nat.lt_of_lt_of_le h1 h.2.2.1
  ·exact ih h.2.2.2 hm
def xp(e:Nat):List zh->List zh
 |[]=>if e<ALL then [(e,ALL)] else []
 |s :: r=>if e<s.1 then (e,s.1) :: xp s.2 r else xp s.2 r
theorem zoF:∀{l:List zh} {e:Nat},qW e l->qW e (xp e l):=by
 intro l
 induction l with
 |nil =>
  intro e _;unfold xp;split
  ·exact⟨Nat.le_refl _,by assumption,Nat.le_refl _,trivial⟩
  ·trivial
 |cons s r ih =>
  intro e h;obtain⟨h1,h2,h3,h4⟩:=h;have hr:=ih (h4.mono (Nat.le_succ _));unfold xp;split
  ·exact⟨Nat.le_refl _,by assumption,by simp only;omega,hr.mono (by simp only;omega)⟩
  ·exact hr.mono (by omega)
def y7:List zh->List zh->List zh
 |[],_=>[]
 |_ :: _,[]=>[]
 |s :: r,t :: q =>(if max s.1 t.1<min s.2 t.2 then [(max s.1 t.1,min s.2 t.2)] else [])++(if s.2<t.2 then y7 r (t :: q) else y7 (s :: r) q)
termination_by l m=>l.length+m.length
theorem zgZ(l:List zh):y7 l []=[]:=by cases l<;>simp[y7]
theorem zdX{lo:Nat}{c:Prop}[Decidable c]{s:zh}{r:List zh}(h1:c->lo<=s.1/\s.1<s.2/\s.2<=ALL/\qW (s.2+1) r)(h2:¬c->qW lo r):qW lo ((if c then [s] else [])++r):=by
 by_cases h:c
 ·rw[if_pos h];exact h1 h
 ·rw[if_neg h];exact h2 h
theorem znk:∀(k:Nat) {l m:List zh} {lo lo':Nat},l.length+m.length<=k->qW lo l->qW lo' m->qW (max lo lo') (y7 l m):=by
 intro k
 induction k with
 |zero =>intro l m lo lo' hk _ _;obtain rfl:l=[]:=List.length_eq_zero_iff.1 (by omega);simp only[y7];trivial
 |succ k ih =>
  intro l m lo lo' hk hl hm;cases l with
  |nil=>simp only[y7];trivial
  |cons s r =>
   cases m with
   |nil=>simp only[y7];trivial
   |cons t q =>
    rw[y7];simp only[List.length_cons] at hk;have hl':=hl;have hm':=hm;obtain⟨h1,h2,h3,h4⟩:=hl;obtain⟨g1,g2,g3,g4⟩:=hm
    by_cases hlt:s.2<t.2
    ·rw[if_pos hlt];have:=ih (l:=r) (m:=t :: q) (lo:=s.2+1) (lo':=t.1) (by simp only[List.length_cons];omega) h4 ⟨Nat.le_refl _,g2,g3,g4⟩;refine zdX (fun hc=>⟨by simp only;omega,hc,by simp only;omega,this.mono (by simp only;omega)⟩) (fun hc=>this.mono (by omega))
    ·rw[if_neg hlt];have:=ih (l:=s :: r) (m:=q) (lo:=s.1) (lo':=t.2+1) (by simp only[List.length_cons];omega) ⟨Nat.le_refl _,h2,h3,h4⟩ g4;refine zdX (fun hc=>⟨by simp only;omega,hc,by simp only;omega,this.mono (by simp only;omega)⟩) (fun hc=>this.mono (by omega))
abbrev Rg(l:List zh):Prop:=qW 0 l
def nt(l:List zh):List zh:=xp 0 l
def nd(l m:List zh):List zh:=y7 l m
def orr(l m:List zh):List zh:=nt (nd (nt l) (nt m))
def zG(a b:Nat):List zh:=if a<b then [(a,b)] else []
def zr:List zh:=[(0,ALL)]
theorem Xm:Rg zr:=⟨Nat.le_refl _,by decide,Nat.le_refl _,trivial⟩
theorem KA:Rg []:=trivial
theorem Xv{a b:Nat}(h:b<=ALL):Rg (zG a b):=by
 unfold zG;split
 ·exact⟨Nat.zero_le _,by assumption,h,trivial⟩
 ·trivial
theorem ZQ{l:List zh}(h:Rg l):Rg (nt l):=zoF h
theorem YF{l m:List zh}(h:Rg l)(h':Rg m):Rg (nd l m):=(znk _ zN h h').mono (Nat.zero_le _)
theorem zcC{l m:List zh}(h:Rg l)(h':Rg m):Rg (orr l m):=ZQ (YF (ZQ h) (ZQ h'))
theorem zj5{n:Nat}:mem zr n↔n<ALL:=by unfold zr;rw[mem_cons];simp[JJ]
end Sv
section
open Go.RowKit Sv
def qE(l:List zh):List Value:=l.flatMap fun s=>[.int .i64 s.1,.int .i64 s.2]
def sp(l:List zh)(i:Nat):zh:=l.getD i (0,0)
theorem Qq(l:List zh)(i:Nat)(h:i<l.length):sp l i=l[i]:=by unfold sp;simp[List.getD_eq_getElem?_getD,List.getElem?_eq_getElem h]
theorem Xr(s:zh)(l:List zh)(i:Nat):sp (s :: l) (i+1)=sp l i:=by simp[sp]
theorem Xn(a b:List zh):qE (a++b)=qE a++qE b:=by simp[qE]
theorem zcv:∀(l:List zh) (i:Nat),i<l.length->(qE l)[i*2]?=some (.int .i64 ((sp l i).1:Int))/\(qE l)[i*2+1]?=some (.int .i64 ((sp l i).2:Int))
 |[],i,h=>by simp at h
 |n :: l,0,_=>by simp[qE,sp]
 |n :: l,i+1,h=>by
  have ih:=zcv l i (by simpa using h);rw[Xr];have e2:∀j,(qE (n :: l))[j+2]?=(qE l)[j]?:=fun j=>by
   show ([Value.int .i64 n.1,.int .i64 n.2]++qE l)[j+2]?=_;rw[List.getElem?_append_right (by simp)];simp
  rw[show (i+1)*2=i*2+2 by omega,show i*2+2+1=(i*2+1)+2 by omega,e2,e2];exact ih
structure zi(w:World)(v:Value)(l:List zh):Prop where
 form:∃a cap,v=.slice a l.length cap
 cells:∀i,i<l.length->∃g cap,v=.slice (some ⟨g,0,none⟩) l.length cap/\g<w.heap.size/\w.cell? ⟨g,i*2,none⟩=some (.int .i64 ((sp l i).1:Int))/\w.cell? ⟨g,i*2+1,none⟩=some (.int .i64 ((sp l i).2:Int))
theorem XG(w:World):zi w (.slice none 0 0) []:=⟨⟨none,0,rfl⟩,fun i h=>by simp at h⟩
theorem zi.below{B:Nat}{w w':World}{v:Value}{l:List zh}(h:zi w v l)(hb:Below B w w')(hB:w.heap.size<=B):zi w' v l :=
 ⟨h.form,fun i hi=>by
  obtain⟨g,cap,e,hg,c0,c1⟩:=h.cells i hi;exact ⟨g,cap,e,Nat.lt_of_lt_of_le hg hb.size,(hb.cell (p:=⟨g,i * 2,none⟩) (by show g<B;omega)).trans c0,(hb.cell (p:=⟨g,i * 2 + 1,none⟩) (by show g<B;omega)).trans c1⟩⟩
theorem zi.drew{w:World}{v:Value}{l:List zh}(h:zi w v l):zi w.drew v l:=⟨h.form,h.cells⟩
theorem Yx{B:Nat}{w:World}{v:Value}{l:List zh}(h:w.ownsRow B 198 2 v l.length (qE l)):zi w v l:=by
 rcases h.2 with ⟨e,e0⟩|⟨g,cap,cur,e,hB,hg,hn,hm,hsz,htake⟩
 ·exact⟨⟨none,0,by rw[e,e0]⟩,fun i hi=>by omega⟩
 ·refine⟨⟨_,_,e⟩,fun i hi=>?_⟩;have hlt:g<w.heap.size:=(h.lt g (by rw[e];rfl)).2;obtain⟨c0,c1⟩:=zcv l i hi;have cell:∀j,j<l.length*2->w.cell? ⟨g,j,none⟩=(qE l)[j]?:=fun j hj=>by
   rw[<-htake,List.getElem?_take,if_pos (by omega)];simp[World.cell?,hg]
  exact⟨g,cap,e,hlt,(cell _ (by omega)).trans c0,(cell _ (by omega)).trans c1⟩
theorem zgj:∀{l:List zh} {lo:Nat},qW lo l->lo<=ALL+1->2*l.length+lo<=ALL+1:=by
 intro l
 induction l with
 |nil=>intro lo _ h;simpa using h
 |cons s r ih =>intro lo h hlo;obtain⟨h1,h2,h3,h4⟩:=h;have:=ih h4 (by omega);simp only[List.length_cons];omega
theorem Yc{l:List zh}(h:Rg l):l.length<=500000000:=by
 have:=zgj h (Nat.zero_le _);unfold ALL at this;omega
theorem zd7:(Tryz.prog.info? 198).map (fun i=>(i.zero,i.size,i.bytes))=some (some (.agg #[.int .i64 0,.int .i64 0]),2,16):=by kernel_rfl
theorem JS{B n:Nat}{w:World}{v:Value}{t:TypeId}{cs:List Value}(h:w.ownsRow B t 2 v n cs):∃a c,v=.slice a n c:=by
 rcases h.2 with ⟨e,e0⟩|⟨g,cap,cur,e,-⟩
 ·exact⟨none,0,by rw[e,e0]⟩
 ·exact⟨_,_,e⟩
theorem Kc(w:World)(A B:Value)(t:TypeId):∀(j:Nat) (u:Value),[A,B][j]?=some u->(w.alloc (.cells #[A,B] t)).cell? (Addr.add ⟨w.heap.size,0,none⟩ j)=some u:=by
 intro j u h
 match j,h with
 |0,h=>simp at h;subst h;simp[Addr.add]
 |1,h=>simp at h;subst h;simp[Addr.add]
 |j+2,h=>simp at h
theorem ZF{w w':World}{row:Option Nat}(hg:w.grownBy w' row){b i:Nat}(hb:b<w.heap.size)(hne:some b≠row):w'.cell? ⟨b,i,none⟩=w.cell? ⟨b,i,none⟩:=by
 unfold World.cell?;rw[hg.block b hb hne]
theorem Y7{B n:Nat}{w:World}{v:Value}{t:TypeId}{cs:List Value}(h:w.ownsRow B t 2 v n cs){b:Nat}(hb:w.heap.size<=b):some b≠v.ownBlock:=fun e=>by
 have:=(h.lt b e.symm).2;omega
theorem Kf{B n b:Nat}{w:World}{v x:Value}{t:TypeId}{cs:List Value}(h:w.ownsRow B t 2 v n cs)(hb:b<B):(w.setCell ⟨b,0,none⟩ x).ownsRow B t 2 v n cs:=by
 refine⟨h.1,?_⟩;rcases h.2 with h1|⟨g,cap,cur,h1,h2,h3,h4⟩
 ·exact .inl h1
 ·exact .inr ⟨g,cap,cur,h1,h2,(Below.heap_setCell _ _ _ g (by show g≠b;omega)).trans h3,h4⟩
theorem Qm(w:World)(A:Value)(t:TypeId):(w.alloc (.cells #[A] t)).cell? ⟨w.heap.size,0,none⟩=some A:=by simp
theorem Kn(w:World)(A B:Value)(t:TypeId):(w.alloc (.cells #[A,B] t)).cell? ⟨w.heap.size,0,none⟩=some A/\(w.alloc (.cells #[A,B] t)).cell? ⟨w.heap.size,1,none⟩=some B:=⟨by simp,by simp⟩
theorem zeA(w:World)(A:Value)(t:TypeId):(w.alloc (.cells #[A] t)).frozen? ⟨w.heap.size,0,none⟩=false:=by simp
structure zfg(w W:World)(A B C:Value):Prop where
 below:zB w W
 size:W.heap.size=w.heap.size+3
 c0:W.cell? ⟨w.heap.size,0,none⟩=some A
 c1:W.cell? ⟨w.heap.size+1,0,none⟩=some B
 c2:W.cell? ⟨w.heap.size+1+1,0,none⟩=some C
 f2:W.frozen? ⟨w.heap.size+1+1,0,none⟩=false
theorem zaR(w:World)(A B C:Value)(t t' t'':TypeId):zfg w (((w.alloc (.cells #[A] t)).alloc (.cells #[B] t')).alloc (.cells #[C] t'')) A B C:=by
 have s1:(w.alloc (.cells #[A] t)).heap.size=w.heap.size+1:=World.size_alloc _ _;have h1:=Qm w A t;have h2:=Qm (w.alloc (.cells #[A] t)) B t';have h3:=Qm ((w.alloc (.cells #[A] t)).alloc (.cells #[B] t')) C t'';have f3:=zeA ((w.alloc (.cells #[A] t)).alloc (.cells #[B] t')) C t'';have s2:((w.alloc (.cells #[A] t)).alloc (.cells #[B] t')).heap.size=w.heap.size+1+1:=by rw[World.size_alloc,s1]
 have b1:zB w (w.alloc (.cells #[A] t)):=(Below.refl _ w).alloc zN _;have b2:Below (w.heap.size+1) (w.alloc (.cells #[A] t)) ((w.alloc (.cells #[A] t)).alloc (.cells #[B] t')):=zF.alloc (by omega) _;have b3:Below (w.heap.size+1+1) ((w.alloc (.cells #[A] t)).alloc (.cells #[B] t')) (((w.alloc (.cells #[A] t)).alloc (.cells #[B] t')).alloc (.cells #[C] t'')):=zF.alloc (by omega) _;rw[s1] at h2;rw[s2] at h3 f3;refine⟨b1.trans ((b2.mono (by omega)).trans (b3.mono (by omega))),by rw[World.size_alloc,s2],?_,?_,h3,f3⟩
 ·exact(b3.cell (p:=⟨w.heap.size,0,none⟩) (by show w.heap.size<_;omega)).trans ((b2.cell (p:=⟨w.heap.size,0,none⟩) (by show w.heap.size<_;omega)).trans h1)
 ·exact(b3.cell (p:=⟨w.heap.size+1,0,none⟩) (by show w.heap.size+1<_;omega)).trans h2
structure Yl(w W:World)(bs bt:Nat)(A T C D:Value):Prop where
 below:zB w W
 hs:w.heap.size<=bs
 ht:w.heap.size<=bt
 ls:bs<W.heap.size
 lt:bt<W.heap.size
 s0:W.cell? ⟨bs,0,none⟩=some A
 s1:W.cell? ⟨bs,1,none⟩=some T
 t0:W.cell? ⟨bt,0,none⟩=some C
 t1:W.cell? ⟨bt,1,none⟩=some D
theorem zcE(w:World)(A T C D:Value)(t t':TypeId):Yl w ((w.alloc (.cells #[A,T] t)).alloc (.cells #[C,D] t')).drew w.heap.size (w.heap.size+1) A T C D:=by
 have s1:(w.alloc (.cells #[A,T] t)).heap.size=w.heap.size+1:=World.size_alloc _ _;have s2:((w.alloc (.cells #[A,T] t)).alloc (.cells #[C,D] t')).heap.size=w.heap.size+1+1:=by rw[World.size_alloc,s1]
 have b1:zB w (w.alloc (.cells #[A,T] t)):=(Below.refl _ w).alloc zN _;have b2:Below (w.heap.size+1) (w.alloc (.cells #[A,T] t)) ((w.alloc (.cells #[A,T] t)).alloc (.cells #[C,D] t')).drew:=(zF.alloc (by omega) _).drew;have h1:=Kn w A T t;have h2:=Kn (w.alloc (.cells #[A,T] t)) C D t';rw[s1] at h2;have ls:w.heap.size<((w.alloc (.cells #[A,T] t)).alloc (.cells #[C,D] t')).drew.heap.size:=by show w.heap.size<((w.alloc (.cells #[A,T] t)).alloc (.cells #[C,D] t')).heap.size;omega
 have lt:w.heap.size+1<((w.alloc (.cells #[A,T] t)).alloc (.cells #[C,D] t')).drew.heap.size:=by show w.heap.size+1<((w.alloc (.cells #[A,T] t)).alloc (.cells #[C,D] t')).heap.size;omega
 exact⟨b1.trans (b2.mono (by omega)),Nat.le_refl _,by omega,ls,lt,(b2.cell (p:=⟨w.heap.size,0,none⟩) (by show w.heap.size<_;omega)).trans h1.1,(b2.cell (p:=⟨w.heap.size,1,none⟩) (by show w.heap.size<_;omega)).trans h1.2,h2.1,h2.2⟩
theorem zkJ(w:World)(A T C D:Value)(t t':TypeId):Yl w ((w.alloc (.cells #[C,D] t')).alloc (.cells #[A,T] t)).drew (w.heap.size+1) w.heap.size A T C D:=by
 have h:=zcE w C D A T t' t;exact⟨h.below,h.ht,h.hs,h.lt,h.ls,h.t0,h.t1,h.s0,h.s1⟩
theorem Yl.drewN{w W:World}{bs bt:Nat}{A T C D:Value}(h:Yl w W bs bt A T C D)(n:Nat):Yl w (W.drewN n) bs bt A T C D:=by
 induction n with
 |zero=>exact h
 |succ n ih=>exact⟨⟨ih.below.os,ih.below.tape,ih.below.output,ih.below.size,ih.below.block⟩,ih.hs,ih.ht,ih.ls,ih.lt,ih.s0,ih.s1,ih.t0,ih.t1⟩
theorem zdN{B n b:Nat}{w w':World}{v:Value}{t:TypeId}{cs:List Value}(h:w.ownsRow B t 2 v n cs)(hb:Below b w w')(hB:w.heap.size<=b):w'.ownsRow B t 2 v n cs:=by
 refine⟨h.1,?_⟩;rcases h.2 with h1|⟨g,cap,cur,h1,h2,h3,h4⟩
 ·exact .inl h1
 ·exact .inr ⟨g,cap,cur,h1,h2,(hb.block g (by have:=(h.lt g (by rw[h1];rfl)).2;omega)).trans h3,h4⟩
def Qs(w:World)(l:List zh)(e:Ending)(w':World):Prop:=∃v',e=.returned (.agg #[v'])/\zi w' v' l/\(∀g,v'.ownBlock=some g->w.heap.size<=g)/\zB w w'
theorem zi.set{w:World}{v x:Value}{l:List zh}{b:Nat}(h:zi w v l)(hn:v.ownBlock≠some b):zi (w.setCell ⟨b,0,none⟩ x) v l :=
 ⟨h.form,fun i hi=>by
  obtain⟨g,cap,e,hg,c0,c1⟩:=h.cells i hi;have hne:g≠b:=fun e'=>hn (by rw[e,e'];rfl);have hh:=Below.heap_setCell w ⟨b,0,none⟩ x g hne;refine⟨g,cap,e,Nat.lt_of_lt_of_le hg ((Below.refl 0 w).setCell (p:=⟨b,0,none⟩) (Nat.zero_le _) x).size,?_,?_⟩
  ·rw[<-c0];unfold World.cell?;rw[hh]
  ·rw [<- c1];unfold World.cell?;rw [hh]⟩
end
section
open Go.RowKit Go.Shelf Go.Sort Sv
structure Lb(w:World):Prop where
 ml:∃n,w.cell? ⟨2,0,none⟩=some (.int .i64 n)
 es:∃ev,w.cell? ⟨3,0,none⟩=some ev/\(ev=.nilIface\/∃te pe,ev=.iface te pe)
 er:∃ev,w.cell? ⟨4,0,none⟩=some ev/\(ev=.nilIface\/∃te pe,ev=.iface te pe)
 tab:Lib.TabIs Tryz.prog w "internal/strconv.uint64pow10" .u64 Lib.pow10Tab
 glob:xP w
 big:10<=w.heap.size
theorem Lb.below{w w':World}(h:Lb w)(hb:zB w w'):Lb w':=by
 have hbig:=h.big;obtain⟨n,h1⟩:=h.ml;obtain⟨e3,h3,h3'⟩:=h.es;obtain⟨e4,h4,h4'⟩:=h.er;exact⟨⟨n,(hb.cell (p:=⟨2,0,none⟩) (by show 2<_;omega)).trans h1⟩,⟨e3,(hb.cell (p:=⟨3,0,none⟩) (by show 3<_;omega)).trans h3,h3'⟩,⟨e4,(hb.cell (p:=⟨4,0,none⟩) (by show 4<_;omega)).trans h4,h4'⟩,Lib.tabBelow_of_tabIs h.tab w' hb,h.glob.below hb,Nat.le_trans hbig hb.size⟩
def xM(l:List UInt8):Except Int Nat :=
 match Lib.parseIntB 64 l with
 |.ok v=>if v<0\/Lib.itoa v≠l then .error 3 else if 999<v then .error 2 else .ok v.toNat
 |_=>.error 3
def zfe:Except Int Nat->Value
 |.ok n=>.tuple #[.int .i64 n,.nilIface]
 |.error k=>.tuple #[.int .i64 0,.iface 64 (.int .i64 k)]
theorem zj7(B:Nat)(w:World)(k:Nat)(os:Array Obj)(h:B<=w.heap.size):Below B w (grow (w.drewN k) os):=Lib.below_grow _ w h k os
theorem zmj(w:World)(t:ByteArray):zB w (Lib.bytesWorld w 5 t):=by
 have h:=((Below.refl w.heap.size w).drew).alloc zN (.cells (Lib.bytesCells w 5 t) 5);refine⟨h.os,h.tape,h.output,?_,fun k hk=>?_⟩
 ·exact Nat.le_trans h.size (by simp[Lib.bytesWorld,World.freeze])
 ·rw[<-h.block k hk];simp only[Lib.bytesWorld,World.freeze];rw[if_neg (by decide),Array.getElem?_modify,if_neg (by omega)]
theorem zfQ{l:List UInt8}{v:Int}(h:Lib.parseIntB 64 l=.ok v):-9223372036854775808<=v/\v<=9223372036854775807:=by
 unfold Lib.parseIntB at h;split at h
 ·cases h
 ·simp only at h;split at h
  ·cases h
  ·cases h
  ·split at h
   ·cases h
   ·split at h
    ·cases h
    ·cases h;split<;>simp_all<;>omega
theorem zd9(s:ByteArray)(w:World)(hs:s.size<=100000)(hw:Lb w)(h:∀v,Lib.parseIntB 64 s.data.toList≠.ok v) :
  zR 84 #[.string s] w (.tuple #[.int .i64 0,.iface 64 (.int .i64 3)]):=by
 have H:Hid (zC 143 #[.string s,.int .i64 10,.int .i64 64] w fun e w'=>∃N x,e=.returned (.tuple #[.int .i64 x,.iface 297 (.pointer (some ⟨N,0,none⟩))])/\zB w w'):=by
  cases hp:Lib.parseIntB 64 s.data.toList with
  |ok v=>exact absurd hp (h v)
  |«syntax» =>obtain⟨ev,h3,h3'⟩:=hw.es;exact(Tryz.strconv_ParseInt_10_at64_syntax s (by omega) hp ev w h3 h3').mono fun e w' ⟨N,he,_,_,hb⟩=>⟨N,_,he,hb⟩
  |range =>obtain⟨ev,h3,h3'⟩:=hw.er;exact(Tryz.strconv_ParseInt_10_at64_range s (by omega) hp ev w h3 h3').mono fun e w' ⟨N,he,_,_,hb⟩=>⟨N,_,he,hb⟩
 clear h hw;go_enter Tryz.func84,Tryz.ntmps84;go_wp2_with fail;refine H.out.mono ?_;rintro e w1 ⟨N,x,rfl,hb⟩;have HB:=zH hb;clear hb H;go_wp2;go_ret2;exact⟨rfl,HB.out⟩
theorem ziC(s:ByteArray)(w:World)(hs:s.size<=100000)(hw:Lb w)(v:Int)(h:Lib.parseIntB 64 s.data.toList=.ok v) :
  zR 84 #[.string s] w (zfe (if v<0\/Lib.itoa v≠s.data.toList then .error 3 else if 999<v then .error 2 else .ok v.toNat)):=by
 obtain⟨r0,r1⟩:=zfQ h;have H:Hid (zR 143 #[.string s,.int .i64 10,.int .i64 64] w (.tuple #[.int .i64 v,.nilIface])):=(Tryz.strconv_ParseInt_10_at64_ok s (by omega) v h w).mono fun e w' ⟨he,hw'⟩=>by
  refine⟨he,?_⟩;rcases hw' with rfl|⟨t,rfl⟩
  ·exact Below.refl _ _
  ·exact zmj w t
 have HF:Hid (∀W,zB w W->zR 144 #[.int .i64 v,.int .i64 10] W (.string ⟨(Lib.itoa v).toArray⟩)):=fun W hb=>(Tryz.strconv_FormatInt_10 v r0 r1 W (hw.below hb).tab).mono fun e w' ⟨he,k,os,hw'⟩=>⟨he,hw'▸zj7 _ W k os zN⟩;clear h hw
 by_cases hneg:v<0
 ·rw[if_pos (Or.inl hneg)];go_enter Tryz.func84,Tryz.ntmps84;go_wp2_with fail;refine H.out.mono ?_;rintro e w1 ⟨rfl,hb⟩;have HB:=zH hb;clear hb H;go_wp2;go_ret2;exact⟨rfl,HB.out⟩
 ·generalize Lib.itoa v=l at *
  by_cases hl:l=s.data.toList
  ·have heq:(l==s.toList)=true:=by rw[ByteArray.toList_eq,hl];simp
   rw[if_neg (by rintro (h|h);exact hneg h;exact h hl)];clear hl
   by_cases hbig:999<v
   ·rw[if_pos hbig];go_enter Tryz.func84,Tryz.ntmps84;go_wp2_with fail;refine H.out.mono ?_;rintro e w1 ⟨rfl,hb⟩;have H2:=zH (HF.out _ hb);have HB:=zH hb;clear hb H HF;go_wp2_with fail;refine H2.out.mono ?_;rintro e w2 ⟨rfl,hb2⟩;have HB2:Hid (zB w w2):=zT HB.out hb2;clear hb2 H2 HB;go_wp2;go_ret2;exact⟨rfl,HB2.out⟩
   ·rw[if_neg hbig];have hv:((v.toNat:Nat):Int)=v:=by omega
    go_enter Tryz.func84,Tryz.ntmps84;go_wp2_with fail;refine H.out.mono ?_;rintro e w1 ⟨rfl,hb⟩;have H2:=zH (HF.out _ hb);have HB:=zH hb;have HV:=zH hv;clear hb H HF hv;go_wp2_with fail;refine H2.out.mono ?_;rintro e w2 ⟨rfl,hb2⟩;have HB2:Hid (zB w w2):=zT HB.out hb2;clear hb2 H2 HB;go_wp2;go_ret2;exact⟨(show Ending.returned (.tuple #[.int .i64 v,.nilIface])=.returned (.tuple #[.int .i64 ((v.toNat:Nat):Int),.nilIface]) by rw[HV.out]),HB2.out⟩
  ·have heq:(l==s.toList)=false:=by rw[ByteArray.toList_eq];simpa using hl
   rw[if_pos (Or.inr hl)];clear hl;go_enter Tryz.func84,Tryz.ntmps84;go_wp2_with fail;refine H.out.mono ?_;rintro e w1 ⟨rfl,hb⟩;have H2:=zH (HF.out _ hb);have HB:=zH hb;clear hb H HF;go_wp2_with fail;refine H2.out.mono ?_;rintro e w2 ⟨rfl,hb2⟩;have HB2:Hid (zB w w2):=zT HB.out hb2;clear hb2 H2 HB;go_wp2;go_ret2;exact⟨rfl,HB2.out⟩
theorem J7(s:ByteArray)(w:World)(hs:s.size<=100000)(hw:Lb w) :
  zR 84 #[.string s] w (zfe (xM s.data.toList)):=by
 cases h:Lib.parseIntB 64 s.data.toList with
 |ok v=>unfold xM;rw[h];exact ziC s w hs hw v h
 |«syntax»=>unfold xM;rw[h];exact zd9 s w hs hw (fun v e=>by rw[h] at e;cases e)
 |range=>unfold xM;rw[h];exact zd9 s w hs hw (fun v e=>by rw[h] at e;cases e)
end
section
open Go.RowKit Go.Shelf
attribute [local go_sem] Oper.semAt_some
theorem zaa(s m:ByteArray)(w:World) :
  CallsIn Fence.wide 3 Tryz.prog 83 #[.string s,.string m] w fun e w'=>e=.returned (.func (.func 142) #[] #[.pointer (some ⟨w.heap.size,0,none⟩),.pointer (some ⟨w.heap.size+1,0,none⟩)])/\w'=(w.alloc (.cells #[.string s] 9)).alloc (.cells #[.string m] 9):=by
 refine callsIn_of_wp Tryz.func83 rfl trivial ?_ rfl;simp only[Tryz.ntmps83,List.size_toArray,List.length_cons,List.length_nil,Nat.reduceAdd,Nat.reduceSub,Array.replicate_succ,Array.replicate_zero,List.push_toArray,List.append_toArray,List.nil_append,List.cons_append]
 gi_wp2
 go_ret;exact⟨rfl,rfl⟩
def qy(s m:ByteArray):Nat->Nat->List (Nat × ByteArray)
 |0,k=>[(k,s.extract k s.size)]
 |f+1,k=>if Lib.index (s.extract k s.size).data.toList m.data.toList<0 then [(k,s.extract k s.size)] else (k,s.extract k (k+(Lib.index (s.extract k s.size).data.toList m.data.toList).toNat)) :: qy s m f (k+(Lib.index (s.extract k s.size).data.toList m.data.toList).toNat+m.size)
theorem zeP:∀(l sub:List UInt8),0<=Lib.index l sub->(Lib.index l sub).toNat+sub.length<=l.length:=by
 intro l
 induction l with
 |nil =>
  intro sub h;unfold Lib.index at h ⊢;cases sub with
  |nil=>simp
  |cons c t=>simp at h
 |cons b l ih =>
  intro sub h;unfold Lib.index at h ⊢
  by_cases hp:sub.isPrefixOf (b :: l)=true
  ·rw[if_pos hp];have:=(List.isPrefixOf_iff_prefix.1 hp).length_le;simpa using this
  ·rw[if_neg hp] at h ⊢
   by_cases he:Lib.index l sub=-1
   ·rw[if_pos (by simp[he])] at h;omega
   ·rw[if_neg (by simpa using he)] at h ⊢;have:=ih sub (by omega);simp only[List.length_cons];omega
theorem zf7(s m:ByteArray)(f k:Nat):0<(qy s m f k).length:=by
 cases f with
 |zero=>simp[qy]
 |succ f=>rw[qy];split<;>simp
theorem KM{s m:ByteArray}{k:Nat}(h:Lib.index (s.extract k s.size).data.toList m.data.toList<0):∀f,qy s m f k=[(k,s.extract k s.size)]
 |0=>rfl
 |f+1=>by rw[qy,if_pos h]
theorem zeF{s m:ByteArray}{k f j:Nat}(h:Lib.index (s.extract k s.size).data.toList m.data.toList=(j:Int)):qy s m (f+1) k=(k,s.extract k (k+j)) :: qy s m f (k+j+m.size):=by
 rw[qy,if_neg (by omega),h];rfl
abbrev Pc:={ x:Nat × ByteArray // x.1<=100000/\x.2.size<=100000 }
abbrev zW(l:List Pc):List (Nat × ByteArray):=l.map Subtype.val
def Kp2(bt bm:Nat)(W W':World):Prop:=W'.cell? ⟨bt,0,none⟩=W.cell? ⟨bt,0,none⟩/\W'.cell? ⟨bm,0,none⟩=W.cell? ⟨bm,0,none⟩/\W'.cell? ⟨2,0,none⟩=W.cell? ⟨2,0,none⟩
theorem zmZ(l bt bm:Nat)(s m:ByteArray)(hs:s.size<=100000)(hm:0<m.size)(J Jx:List Pc->World->Prop)
  (hJd:∀pre W,J pre W->J pre W.drew)
  (hY:∀ pre x W,J pre W->pre.length<(qy s m s.size 0).length->YieldAt Fence.wide (3 - 1) Tryz.prog l #[.int .i64 x.1.1,.string x.1.2] W fun e W' =>
   (e=.returned (.bool true)/\J (pre++[x]) W'/\Kp2 bt bm W W')\/(e=.returned (.bool false)/\Jx (pre++[x]) W'))
  (W:World) (h0:W.cell? ⟨bt,0,none⟩=some (.string s)) (h1:W.cell? ⟨bm,0,none⟩=some (.string m)) (n:Int) (hn0:W.cell? ⟨2,0,none⟩=some (.int .i64 n)) (hJ:J [] W) :
  CallsIn Fence.wide 3 Tryz.prog 142 #[.func (.yield l) #[] #[],.pointer (some ⟨bt,0,none⟩),.pointer (some ⟨bm,0,none⟩)] W fun e W'=>(∃v,e=.returned v)/\((∃ys,zW ys=qy s m s.size 0/\J ys W')\/(∃pre,zW pre <+: qy s m s.size 0/\Jx pre W')):=by
 have HY:=zH hY;have HJD:=zH hJd;clear hY hJd;refine callsIn_of_wp Tryz.func142 rfl trivial ?_ rfl;simp only[Tryz.ntmps142,List.size_toArray,List.length_cons,List.length_nil,Nat.reduceAdd,Nat.reduceSub,Array.replicate_succ,Array.replicate_zero,List.push_toArray,List.append_toArray,List.nil_append,List.cons_append]
 gi_wp2
 gi_loopw [4] (fun p wr=>∃(pre:List Pc) (k f:Nat),p=.int .i64 k/\k<=s.size/\s.size<=k+f/\pre.length+f<=s.size/\zW pre++qy s m f k=qy s m s.size 0/\wr.cell? ⟨bt,0,none⟩=some (.string s)/\wr.cell? ⟨bm,0,none⟩=some (.string m)/\wr.cell? ⟨2,0,none⟩=some (.int .i64 n)/\J pre wr)
  (fun p _=>s.size+1-(intOf p).toNat)
 case atStart=>exact⟨[],0,s.size,rfl,Nat.zero_le _,by omega,by simp,rfl,h0,h1,hn0,hJ⟩
 case round =>
  obtain⟨pre,k,f,rfl,hk,hf,hpl,hcut,c0,c1,hn,hJs⟩:=hrel;have HJ:=zH hJs;have HC:=zH hcut;clear hJs hcut;have HN:=zH hn;clear hn;have hmx:Tryz.prog.follows .mixedOrders=true:=by kernel_rfl
  obtain⟨q,hq⟩:∃q:Int,Lib.index (s.extract k s.size).data.toList m.data.toList=q:=⟨_,rfl⟩;have hx:(s.extract k s.size).size=s.size-k:=by rw[ByteArray.size_extract];omega
  have HI:Hid (∀W',W'.cell? ⟨2,0,none⟩=some (.int .i64 n)->CallsIn Fence.wide 2 Tryz.prog 141 #[.string (s.extract k s.size),.string m] W' fun e w'=>e=.returned (.int .i64 q)/\w'=W'):=fun W' h=>callsIn_wide.2 (hq▸Tryz.strings_Index (s.extract k s.size) m n W' (by rw[ByteArray.size_extract];omega) h);have hn2:wr.drew.cell? ⟨2,0,none⟩=some (.int .i64 n):=HN.out;have HN2:=zH hn2;have HQ:=zH hq;have hlen:pre.length<(qy s m s.size 0).length:=by rw[<-HC.out,List.length_append,List.length_map];have:=zf7 s m f k;omega
  have HX:=zH hx;clear hn2 hq hx;have hd:1<=3-1:=by omega
  by_cases hneg:q<0
  ·obtain⟨fn,tmps,assign,body,hy,hR⟩:=HY.out pre ⟨(k,s.extract k s.size),by simp only;omega,by simp only;rw[HX.out];omega⟩ wr.drew (HJD.out _ _ HJ.out) hlen;dsimp only at hy
   gi_wp2
   gi_region_with_o (refine⟨trivial,?_⟩;gi_at_call 141;refine(HI.out _ HN2.out).mono ?_;rintro e w' ⟨rfl,rfl⟩)
   all_goals gi_wp2
   all_goals
    refine hR.mono ?_;rintro e W3 (⟨rfl,hJ3,hk3⟩|⟨rfl,hJx3⟩)
    ·gi_wp2
     refine bodyPost_ret (results_none rfl _ _ _) rfl ?_;have hc:=HC.out;rw[KM (by rw[HQ.out];exact hneg)] at hc;exact⟨⟨_,rfl⟩,.inl ⟨_,by rw[zW,List.map_append];exact hc,hJ3⟩⟩
    ·gi_wp2
     refine bodyPost_ret (results_none rfl _ _ _) rfl ?_;have hc:=HC.out;rw[KM (by rw[HQ.out];exact hneg)] at hc;exact⟨⟨_,rfl⟩,.inr ⟨_,⟨[],by rw[List.append_nil,zW,List.map_append];exact hc⟩,hJx3⟩⟩
  ·obtain⟨j,rfl⟩:∃j:Nat,q=(j:Int):=⟨q.toNat,by omega⟩;have hroom:=zeP (s.extract k s.size).data.toList m.data.toList (by rw[HQ.out];omega);rw[HQ.out] at hroom;have hx:=HX.out;have hxl:(s.extract k s.size).data.toList.length=s.size-k:=by rw[<-hx];simp
   have hml:m.data.toList.length=m.size:=by simp
   rw[hxl,hml] at hroom;simp only[Int.toNat_natCast] at hroom;obtain⟨f',rfl⟩:∃f',f=f'+1:=⟨f-1,by omega⟩;have hcut:=HC.out;rw[zeF HQ.out,List.append_cons] at hcut;have HC2:=zH hcut;have hk1:k<=100000:=by omega
   have hx2:(s.extract k (k+j)).size<=100000:=by rw[ByteArray.size_extract];omega
   clear hx hxl hml hcut HC;obtain⟨fn,tmps,assign,body,hy,hR⟩:=HY.out pre ⟨(k,s.extract k (k+j)),hk1,hx2⟩ wr.drew (HJD.out _ _ HJ.out) hlen;dsimp only at hy;have i0:(0:Int)<=(k:Int):=by omega
   have i1:(k:Int)<=(k:Int)+(j:Int):=by omega
   have i2:(k:Int)+(j:Int)<=(s.size:Int):=by omega
   have hsl:=fun W'=>run_slice_string (P:=Tryz.prog) W' 9 s .i64 .i64 (k:Int) ((k:Int)+(j:Int)) Tryz.underlying9 i0 i1 i2;have e1:((k:Int)+(j:Int)).toNat=k+j:=by omega
   simp only[e1,Int.toNat_natCast] at hsl;clear e1
   gi_wp2
   gi_region_with_o (refine⟨trivial,?_⟩;gi_at_call 141;refine(HI.out _ HN2.out).mono ?_;rintro e w' ⟨rfl,rfl⟩)
   all_goals gi_wp2
   all_goals
    refine hR.mono ?_;rintro e W3 (⟨rfl,hJ3,hk3⟩|⟨rfl,hJx3⟩)
    ·have d0:W3.cell? ⟨bt,0,none⟩=some (.string s):=hk3.1.trans c0;have d1:W3.cell? ⟨bm,0,none⟩=some (.string m):=hk3.2.1.trans c1;have d2:Hid (W3.cell? ⟨2,0,none⟩=some (.int .i64 n)):=hk3.2.2.trans HN.out;have HJ3:=zH hJ3;clear hJ3 hk3
     gi_wp2
     go_roundw
     case rel=>exact⟨pre++[⟨(k,s.extract k (k+j)),hk1,hx2⟩],k+j+m.size,f',by go_num,by omega,by omega,by simp;omega,by rw[zW,List.map_append];exact HC2.out,d0,d1,d2.out,HJ3.out⟩
     case measure=>simp[intOf];omega
    ·gi_wp2
     refine bodyPost_ret (results_none rfl _ _ _) rfl ?_;exact⟨⟨_,rfl⟩,.inr ⟨_,⟨_,by rw[zW,List.map_append];exact HC2.out⟩,hJx3⟩⟩
theorem zog(W:World):W.grownBy W.drew none:=⟨rfl,rfl,rfl,Nat.le_refl _,fun _ _ _=>rfl⟩
abbrev zcR(x:Pc):Array Value:=#[.int .i64 x.1.1,.string x.1.2]
theorem JM(bt bm:Nat)(s m:ByteArray)(hs:s.size<=100000)(hm:0<m.size)(w:World)(hbt:bt<w.heap.size)(hbm:bm<w.heap.size)(h1:2<w.heap.size)(c0:w.cell? ⟨bt,0,none⟩=some (.string s))(c1:w.cell? ⟨bm,0,none⟩=some (.string m))(n:Int)(c2:w.cell? ⟨2,0,none⟩=some (.int .i64 n)) :
  SeqStopsK Fence.wide 3 Tryz.prog 142 #[.pointer (some ⟨bt,0,none⟩),.pointer (some ⟨bm,0,none⟩)] zcR (Kp2 bt bm) (fun ys=>zW ys=qy s m s.size 0) (fun pre=>zW pre <+: qy s m s.size 0) (qy s m s.size 0).length w:=fun l J Jx W hW hJ _ hY h0 =>
 zmZ l bt bm s m hs hm J Jx (fun pre W h=>hJ pre W _ none h (zog W) (fun r e=>by cases e)) hY W ((hW.cell (p:=⟨bt,0,none⟩) hbt).trans c0) ((hW.cell (p:=⟨bm,0,none⟩) hbm).trans c1) n ((hW.cell (p:=⟨2,0,none⟩) h1).trans c2) h0
theorem Xy{bt bm:Nat}{A B C:World}(h:Kp2 bt bm A B)(k:Kp2 bt bm B C):Kp2 bt bm A C:=⟨k.1.trans h.1,k.2.1.trans h.2.1,k.2.2.trans h.2.2⟩
theorem Xe{W:World}{l b i:Nat}{o':Obj}(h:b≠l):(W.putObj l o').cell? ⟨b,i,none⟩=W.cell? ⟨b,i,none⟩:=by
 unfold World.cell?;rw[World.putObj_heap_other h]
theorem JB{bt bm:Nat}{w:World}(hbt:bt<w.heap.size)(hbm:bm<w.heap.size)(h1:2<w.heap.size)(W:World)(l:Nat)(o o':Obj)(hl:w.heap.size<=l)(_:W.heap[l]?=some o)(_:o.isCells=false)(_:o.isWalk=false):Kp2 bt bm W (W.putObj l o') :=
 ⟨Xe (by omega),Xe (by omega),Xe (by omega)⟩
theorem J6{bt bm B:Nat}{W W':World}(h:Below B W W')(h1:bt<B)(h2:bm<B)(h3:2<B):Kp2 bt bm W W':=⟨h.cell (p:=⟨bt,0,none⟩) h1,h.cell (p:=⟨bm,0,none⟩) h2,h.cell (p:=⟨2,0,none⟩) h3⟩
end
section
open Go.RowKit Go.Shelf
theorem Qa{β:Type}(b:Nat)(t:TypeId)(f:β->Array Value):Own (fun s W=>Blk W b t (f s)):=by
 intro s W W' row h hg hr;refine Blk.kept h hg (fun e=>?_);obtain⟨o,ho,hc⟩:=hr b e.symm;rw[show W.heap[b]?=_ from h] at ho;cases ho;cases hc
theorem yj{W:World}{b b' i j:Nat}{v:Value}(h:b≠b'):(W.setCell ⟨b',i,none⟩ v).cell? ⟨b,j,none⟩=W.cell? ⟨b,j,none⟩:=by
 unfold World.cell?;rw[Below.heap_setCell _ _ _ b h]
theorem Y5{bt bm b i:Nat}{W W':World}{v:Value}(h:Kp2 bt bm W W')(h1:bt≠b)(h2:bm≠b)(h3:2≠b):Kp2 bt bm W (W'.setCell ⟨b,i,none⟩ v) :=
 ⟨(yj h1).trans h.1,(yj h2).trans h.2.1,(yj h3).trans h.2.2⟩
theorem znE{β:Type}(B N:Nat):OwnFrom B (fun (_:β) (W:World)=>N<=W.heap.size):=fun _ _ _ _ hs hg _=>Nat.le_trans hs hg.size
theorem xt{W W':World}(h:zB W W'):KeepsOthers W W':=⟨h.size,fun k o hk _=>by rw[h.block k (Array.getElem?_eq_some_iff.1 hk).1];exact hk⟩
theorem zcf{W:World}{b:Nat}{t:TypeId}{p q r s u v x:Value}(h:Blk W b t #[p,q,r,s,u,v,x]):W.cell? ⟨b,0,none⟩=some p/\W.frozen? ⟨b,0,none⟩=false/\W.cell? ⟨b,1,none⟩=some q/\W.frozen? ⟨b,1,none⟩=false/\W.cell? ⟨b,2,none⟩=some r/\W.frozen? ⟨b,2,none⟩=false/\W.cell? ⟨b,3,none⟩=some s/\W.frozen? ⟨b,3,none⟩=false/\W.cell? ⟨b,4,none⟩=some u/\W.frozen? ⟨b,4,none⟩=false/\W.cell? ⟨b,5,none⟩=some v/\W.frozen? ⟨b,5,none⟩=false/\W.cell? ⟨b,6,none⟩=some x/\W.frozen? ⟨b,6,none⟩=false:=⟨h.cell 0,h.frozen 0,h.cell 1,h.frozen 1,h.cell 2,h.frozen 2,h.cell 3,h.frozen 3,h.cell 4,h.frozen 4,h.cell 5,h.frozen 5,h.cell 6,h.frozen 6⟩
end
end Go.Proofs.YtapobpgbcbplbaaGreatDoor
