import Derived.Test.YtoffdbflfikcoaaGreatDoora7
import Derived.PlainAid
import Derived.Lib.AppendIntMem
open Go.Proofs.Tryz Go.RowKit
namespace Go.Proofs.YtoffdbflfikcoaaGreatDoor
set_option maxHeartbeats 4000000
set_option maxRecDepth 100000
section
open Go.Extern.Stop Go.Stop Go.Extern
namespace Errs
theorem zf9(h:Value)(w:World):(Go.method 504 288 (.agg #[h]) "Kind").run prog w=.ok (273,h) w:=by kernel_rfl
theorem zfZ(h:Value)(w:World):(Go.method 504 288 (.agg #[h]) "Elem").run prog w=.ok (290,.agg #[h]) w:=by kernel_rfl
theorem zfb(h:Value)(w:World):(Go.method 504 288 (.agg #[h]) "Implements").run prog w=.ok (291,.agg #[h]) w:=by kernel_rfl
theorem zdf(h:Value)(w:World):(Go.method 504 288 (.agg #[h]) "AssignableTo").run prog w=.ok (288,.agg #[h]) w:=by kernel_rfl
theorem as_hit(n:Int)(t:Addr)(old:Value)(w:World)(hg:w.cell? ⟨3,0,none⟩=some (.iface 288 (.agg #[.pointer (some ⟨12,31,none⟩)])))(ht0:w.cell? t=some old)(hf0:w.frozen? t=false) :
  zC 84 #[.iface 53 (.int .i64 n),.iface 175 (.pointer (some t))] w fun ev w'=>ev=.returned true/\w'=((((w.alloc (.cells #[.pointer (some t)] 175)).alloc (.cells #[.pointer (some ⟨12,175,none⟩),.pointer (some w),.int .u64 150] 234)).alloc (.cells #[.pointer (some ⟨12,175,none⟩),.pointer (some w),.int .u64 150] 234)).alloc (.cells #[n] 53)).setCell t (.int .i64 n):=by
 have h6:=@run_callFunc_extern prog 132 _ (fun j=>ReflectliteValue.unpack (j.getD 0 (.tuple #[]))) func132 (by kernel_rfl) (by kernel_rfl) (by kernel_rfl) (by kernel_rfl);have h7:=@run_callFunc_extern prog 133 _ (ReflectliteValue.methodAny (ReflectliteValue.valueError "reflectlite.Value.Type" 0) (fun t _ _ _=>ReflectliteType.toType t)) func133 (by kernel_rfl) (by kernel_rfl) (by kernel_rfl) (by kernel_rfl);have h8:=@run_callFunc_extern prog 134 _ (ReflectliteValue.method (ReflectliteValue.valueError "reflectlite.Value.IsNil" 0) ReflectliteValue.isNil) func134 (by kernel_rfl) (by kernel_rfl) (by kernel_rfl) (by kernel_rfl);have K:=@run_callFunc_extern prog 273 _ (ReflectliteType.abiMethod fun t=>do pure (.int .u8 (<-Rtype.kind t))) func273 (by kernel_rfl) (by kernel_rfl) (by kernel_rfl) (by kernel_rfl);have R:=@run_callFunc_extern prog 290 _ (ReflectliteType.method ReflectliteType.elem) func290 (by kernel_rfl) (by kernel_rfl) (by kernel_rfl) (by kernel_rfl);have U:=@run_callFunc_extern prog 291 _ (ReflectliteType.relation "Implements" ReflectliteType.implements_) func291 (by kernel_rfl) (by kernel_rfl) (by kernel_rfl) (by kernel_rfl);have y:=@run_callFunc_extern prog 186 _ ReflectliteType.typeOf func186 (by kernel_rfl) (by kernel_rfl) (by kernel_rfl) (by kernel_rfl);have M:=@run_callFunc_extern prog 288 _ (ReflectliteType.relation "AssignableTo" ReflectliteType.assignableTo) func288 (by kernel_rfl) (by kernel_rfl) (by kernel_rfl) (by kernel_rfl);have C:=@run_callFunc_extern prog 187 _ (ReflectliteValue.method (ReflectliteValue.valueError "reflectlite.Value.Elem" 0) ReflectliteValue.elem) func187 (by kernel_rfl) (by kernel_rfl) (by kernel_rfl) (by kernel_rfl);have J:=@run_callFunc_extern prog 188 _ ReflectliteValue.set func188 (by kernel_rfl) (by kernel_rfl) (by kernel_rfl) (by kernel_rfl);have tO:=zdx;have mA:=zdf;have q:=zcH;have a0:=zcX;have f6:=zd7;have f7:=zcN;have mK:=zf9;have mE:=zfZ;have mI:=zfb;have Z:=zdh;have Y:=zfJ;have u:=zfA;have X:=zdB;have n8:=zgI w.heap.size t ((w.alloc (.cells #[.pointer (some t)] 175)).alloc (.cells #[.pointer (some ⟨12,175,none⟩),.pointer (some w),.int .u64 150] 234)) (by simp);have p:3<w.heap.size:=by
  rcases zsh 3 w.heap.size with h|h
  ·exact h
  ·simp[World.cell?,Array.getElem?_eq_none h] at hg
 have V:((w.alloc (.cells #[.pointer (some t)] 175)).alloc (.cells #[.pointer (some ⟨12,175,none⟩),.pointer (some w),.int .u64 150] 234)).cell? ⟨3,0,none⟩=some (.iface 288 (.agg #[.pointer (some ⟨12,31,none⟩)])):=by
  rw[zrm _ _ ⟨3,0,none⟩ (by simp only[zc1];omega),zrm _ _ ⟨3,0,none⟩ p];exact hg
 have o:t.block<w.heap.size:=by
  rcases zsh t.block w.heap.size with h|h
  ·exact h
  ·simp[World.cell?,Array.getElem?_eq_none h] at ht0
 have el:=zdv w.heap.size t (((w.alloc (.cells #[.pointer (some t)] 175)).alloc (.cells #[.pointer (some ⟨12,175,none⟩),.pointer (some w),.int .u64 150] 234)).alloc (.cells #[.pointer (some ⟨12,175,none⟩),.pointer (some w),.int .u64 150] 234)) (by rw[zrm _ _ w.heap.size (by simp;omega)];simp);have st:=zdm t ⟨w.heap.size+1+1+1,0,none⟩ n old ((((w.alloc (.cells #[.pointer (some t)] 175)).alloc (.cells #[.pointer (some ⟨12,175,none⟩),.pointer (some w),.int .u64 150] 234)).alloc (.cells #[.pointer (some ⟨12,175,none⟩),.pointer (some w),.int .u64 150] 234)).alloc (.cells #[n] 53))
  (by rw[World.cell?_alloc_at _ _ _ _ (by simp)];rfl)
  (by rw[zrm _ _ t (by simp;omega),zrm _ _ t (by simp;omega),zrm _ _ t (by simp;omega),zrm _ _ t o];exact ht0)
  (by rw[zsn _ _ t (by simp;omega),zsn _ _ t (by simp;omega),zsn _ _ t (by simp;omega),zsn _ _ t (Nat.ne_of_lt o)];exact hf0)
 go_enter func84,ntmps84;go_wp2;refine wp_loop_rounds 1 ?_;rw[rounds_succ];go_wp2;go_ret;exact⟨rfl,rfl⟩
end Errs
end
section
open Go.Extern.Stop Go.Stop Go.Extern
def ZK(w:World):Prop:=w.cell? ⟨3,0,none⟩=some (.iface 288 (.agg #[.pointer (some ⟨12,31,none⟩)]))
theorem ZK.lt{w:World}(h:ZK w):3<w.heap.size:=by
 rcases zsh 3 w.heap.size with h1|h1
 ·exact h1
 ·unfold ZK at h;simp[World.cell?,Array.getElem?_eq_none h1] at h
theorem ZK.below{w w':World}(h:ZK w)(hb:zB w w'):ZK w':=(hb.cell (p:=⟨3,0,none⟩) h.lt).trans h
theorem zcU(n:Int)(w:World)(hg:ZK w) :
  zR 37 #[.iface 53 (.int .i64 n)] w (.int .i64 n):=by
 have H:=Errs.as_hit n w.heap.size (.int .i64 0) (w.alloc (.cells #[(0:Int)] 53)) (hg.below (zF.alloc zN _)) (QS _ _ _) (Xu _ _ _);go_enter func37,ntmps37;go_wp2_with fail;refine H.mono ?_;rintro e w' ⟨rfl,hw⟩;have hc:w'.cell? w.heap.size=some (.int .i64 n):=by
  rw[hw];refine zrx _ _ _ ?_;rw[zrm _ _ w.heap.size (by simp;omega),zrm _ _ w.heap.size (by simp;omega),zrm _ _ w.heap.size (by simp;omega),zrm _ _ w.heap.size (by simp),QS];rfl
 have hb:zB w w':=by
  rw[hw];exact(((((zF.alloc zN _).alloc (by simp) _).alloc (by simp;omega) _).alloc (by simp;omega) _).alloc (by simp;omega) _).setCell zN _
 clear H hw;go_wp2;go_ret;exact⟨rfl,hb⟩
end
namespace Sv
def ALL:Nat:=1000000000
abbrev zf:=Nat × Nat
def mem(l:List zf)(n:Nat):Prop:=∃s∈l,s.1<=n/\n<s.2
theorem Qt(n:Nat):¬mem [] n:=fun⟨_,h,_⟩=>by cases h
theorem mem_cons{s:zf}{l:List zf}{n:Nat}:mem (s :: l) n↔(s.1<=n/\n<s.2)\/mem l n:=by
 unfold mem;constructor
 ·rintro⟨t,ht,h⟩;rcases zrw.1 ht with rfl|ht
  ·exact Or.inl h
  ·exact Or.inr ⟨t,ht,h⟩
 ·rintro (h|⟨t,ht,h⟩)
  ·exact⟨s,zsf,h⟩
  ·exact⟨t,zst _ ht,h⟩
def qV(lo:Nat):List zf->Prop
 |[]=>True
 |s :: r=>lo<=s.1/\s.1<s.2/\s.2<=ALL/\qV (s.2+1) r
theorem qV.mono{lo hi:Nat}{l:List zf}(h:qV hi l)(hh:lo<=hi):qV lo l:=by
 cases l with
 |nil=>trivial
 |cons s r=>exact⟨zf1 hh h.1,h.2⟩
theorem qV.ge{lo n:Nat}{l:List zf}(h:qV lo l)(hm:mem l n):lo<=n:=by
 induction l generalizing lo with
 |nil=>exact absurd hm (Qt n)
 |cons s r ih =>
  rcases mem_cons.1 hm with ⟨h1,_⟩|hm
  ·exact zf1 h.1 h1
  ·have:=ih h.2.2.2 hm;have:=h.1;have:=h.2.1;omega
theorem qV.lt{lo n:Nat}{l:List zf}(h:qV lo l)(hm:mem l n):n<ALL:=by
 induction l generalizing lo with
 |nil=>exact absurd hm (Qt n)
 |cons s r ih =>
  rcases mem_cons.1 hm with ⟨_,h1⟩|hm
  ·exact zc6 h1 h.2.2.1
  ·exact ih h.2.2.2 hm
def xw(e:Nat):List zf->List zf
 |[]=>if e<ALL then [(e,ALL)] else []
 |s :: r=>if e<s.1 then (e,s.1) :: xw s.2 r else xw s.2 r
theorem zqG:∀{l:List zf} {e:Nat},qV e l->qV e (xw e l):=by
 intro l
 induction l with
 |nil =>
  intro e _;unfold xw;split
  ·exact⟨zri _,by assumption,zri _,trivial⟩
  ·trivial
 |cons s r ih =>
  intro e h;obtain⟨h1,h2,h3,h4⟩:=h;have hr:=ih (h4.mono (zrr _));unfold xw;split
  ·exact⟨zri _,by assumption,by simp only;omega,hr.mono (by simp only;omega)⟩
  ·exact hr.mono (by omega)
theorem zpc:∀{l:List zf} {e n:Nat},qV e l->(mem (xw e l) n↔(e<=n/\n<ALL/\¬mem l n)):=by
 intro l
 induction l with
 |nil =>
  intro e n _;unfold xw;split
  ·rw[mem_cons];simp only[Qt,zu8,zuk,and_true]
  ·simp only[Qt,zuk,and_true,false_iff];omega
 |cons s r ih =>
  intro e n h;obtain⟨h1,h2,h3,h4⟩:=h;have hr:=ih (n:=n) (h4.mono (zrr s.2));have hg:mem r n->s.2+1<=n:=h4.ge;unfold xw;rw[mem_cons (s:=s)];split
  ·rw[mem_cons,hr];simp only
   by_cases hm:mem r n
   ·have:=hg hm;simp[hm];omega
   ·simp only[hm,zuk,and_true,zu8];omega
  ·rw[hr]
   by_cases hm:mem r n
   ·simp[hm]
   ·simp only[hm,zuk,and_true,zu8];omega
def yF:List zf->List zf->List zf
 |[],_=>[]
 |_ :: _,[]=>[]
 |s :: r,t :: q =>(if max s.1 t.1<min s.2 t.2 then [(max s.1 t.1,min s.2 t.2)] else [])++(if s.2<t.2 then yF r (t :: q) else yF (s :: r) q)
termination_by l m=>l.length+m.length
theorem zmu(l:List zf):yF l []=[]:=by cases l<;>simp[yF]
theorem zgc{lo:Nat}{c:Prop}[Decidable c]{s:zf}{r:List zf}(h1:c->lo<=s.1/\s.1<s.2/\s.2<=ALL/\qV (s.2+1) r)(h2:¬c->qV lo r):qV lo ((if c then [s] else [])++r):=by
 by_cases h:c
 ·rw[zc3 h];exact h1 h
 ·rw[zc2 h];exact h2 h
theorem zl1{n:Nat}{c:Prop}[Decidable c]{s:zf}{r:List zf}:mem ((if c then [s] else [])++r) n↔(c/\s.1<=n/\n<s.2)\/mem r n:=by
 by_cases h:c
 ·rw[zc3 h];simp only[zrL,zrX,h,true_and];exact mem_cons
 ·rw[zc2 h];simp[h]
theorem ziT:∀(k:Nat) {l m:List zf} {lo lo':Nat},l.length+m.length<=k->qV lo l->qV lo' m->qV (max lo lo') (yF l m):=by
 intro k
 induction k with
 |zero =>intro l m lo lo' hk _ _;obtain rfl:l=[]:=zsT.1 (by omega);simp only[yF];trivial
 |succ k ih =>
  intro l m lo lo' hk hl hm;cases l with
  |nil=>simp only[yF];trivial
  |cons s r =>
   cases m with
   |nil=>simp only[yF];trivial
   |cons t q =>
    rw[yF];simp only[zrb] at hk;have hl':=hl;have hm':=hm;obtain⟨h1,h2,h3,h4⟩:=hl;obtain⟨g1,g2,g3,g4⟩:=hm
    by_cases hlt:s.2<t.2
    ·rw[zc3 hlt];have:=ih (l:=r) (m:=t :: q) (lo:=s.2+1) (lo':=t.1) (by simp only[zrb];omega) h4 ⟨zri _,g2,g3,g4⟩;refine zgc (fun hc=>⟨by simp only;omega,hc,by simp only;omega,this.mono (by simp only;omega)⟩) (fun hc=>this.mono (by omega))
    ·rw[zc2 hlt];have:=ih (l:=s :: r) (m:=q) (lo:=s.1) (lo':=t.2+1) (by simp only[zrb];omega) ⟨zri _,h2,h3,h4⟩ g4;refine zgc (fun hc=>⟨by simp only;omega,hc,by simp only;omega,this.mono (by simp only;omega)⟩) (fun hc=>this.mono (by omega))
theorem zmv:∀(k:Nat) {l m:List zf} {lo lo' n:Nat},l.length+m.length<=k->qV lo l->qV lo' m->(mem (yF l m) n↔mem l n/\mem m n):=by
 intro k
 induction k with
 |zero =>intro l m lo lo' n hk _ _;obtain rfl:l=[]:=zsT.1 (by omega);simp only[yF,Qt,false_and]
 |succ k ih =>
  intro l m lo lo' n hk hl hm;cases l with
  |nil=>simp only[yF,Qt,false_and]
  |cons s r =>
   cases m with
   |nil=>simp only[yF,Qt,and_false]
   |cons t q =>
    rw[yF,zl1];simp only[zrb] at hk;obtain⟨h1,h2,h3,h4⟩:=hl;obtain⟨g1,g2,g3,g4⟩:=hm;have hr:mem r n->s.2+1<=n:=h4.ge;have hq:mem q n->t.2+1<=n:=g4.ge
    by_cases hlt:s.2<t.2
    ·rw[zc3 hlt,ih (l:=r) (m:=t :: q) (lo:=s.2+1) (lo':=t.1) (by simp only[zrb];omega) h4 ⟨zri _,g2,g3,g4⟩,mem_cons,mem_cons]
     by_cases a:mem r n<;>by_cases b:mem q n<;>simp only[a,b,or_true,zu8,and_true,true_and,false_and]<;>(try have:=hr a)<;>(try have:=hq b)<;>omega
    ·rw[zc2 hlt,ih (l:=s :: r) (m:=q) (lo:=s.1) (lo':=t.2+1) (by simp only[zrb];omega) ⟨zri _,h2,h3,h4⟩ g4,mem_cons,mem_cons]
     by_cases a:mem r n<;>by_cases b:mem q n<;>simp only[a,b,or_true,zu8,and_true,and_false,true_and]<;>(try have:=hr a)<;>(try have:=hq b)<;>omega
abbrev Rg(l:List zf):Prop:=qV 0 l
def nt(l:List zf):List zf:=xw 0 l
def nd(l m:List zf):List zf:=yF l m
def orr(l m:List zf):List zf:=nt (nd (nt l) (nt m))
def zi(a b:Nat):List zf:=if a<b then [(a,b)] else []
def zm:List zf:=[(0,ALL)]
theorem Xp:Rg zm:=⟨zri _,by decide,zri _,trivial⟩
theorem Zu:Rg []:=trivial
theorem XW{a b:Nat}(h:b<=ALL):Rg (zi a b):=by
 unfold zi;split
 ·exact⟨zf6 _,by assumption,h,trivial⟩
 ·trivial
theorem xO{l:List zf}(h:Rg l):Rg (nt l):=zqG h
theorem Qz{l m:List zf}(h:Rg l)(h':Rg m):Rg (nd l m):=(ziT _ zN h h').mono (zf6 _)
theorem XJ{l m:List zf}(h:Rg l)(h':Rg m):Rg (orr l m):=xO (Qz (xO h) (xO h'))
theorem zm3{n:Nat}:mem zm n↔n<ALL:=by unfold zm;rw[mem_cons];simp[Qt]
theorem Jr{l:List zf}{n:Nat}(h:Rg l):mem (nt l) n↔n<ALL/\¬mem l n:=by
 unfold nt;rw[zpc h];simp
theorem zeN{l m:List zf}{n:Nat}(h:Rg l)(h':Rg m):mem (nd l m) n↔mem l n/\mem m n:=zmv _ zN h h'
theorem ziK{l m:List zf}{n:Nat}(h:Rg l)(h':Rg m):mem (orr l m) n↔mem l n\/mem m n:=by
 unfold orr;rw[Jr (Qz (xO h) (xO h')),zeN (xO h) (xO h'),Jr h,Jr h'];have h1:mem l n->n<ALL:=h.lt;have h2:mem m n->n<ALL:=h'.lt
 by_cases a:mem l n<;>by_cases b:mem m n<;>by_cases c:n<ALL<;>simp_all
end Sv
section
open Sv
def q8(l:List zf):List Value:=l.flatMap fun s=>[.int .i64 s.1,.int .i64 s.2]
def sp(l:List zf)(i:Nat):zf:=l.getD i (0,0)
theorem Q9(l:List zf)(i:Nat)(h:i<l.length):sp l i=l[i]:=by unfold sp;simp[List.getD_eq_getElem?_getD,List.getElem?_eq_getElem h]
theorem KG(s:zf)(l:List zf)(i:Nat):sp (s :: l) (i+1)=sp l i:=by simp[sp]
theorem JD(a b:List zf):q8 (a++b)=q8 a++q8 b:=by simp[q8]
theorem zex:∀(l:List zf) (i:Nat),i<l.length->(q8 l)[i*2]?=some (.int .i64 ((sp l i).1:Int))/\(q8 l)[i*2+1]?=some (.int .i64 ((sp l i).2:Int))
 |[],i,h=>by simp at h
 |n :: l,0,_=>by simp[q8,sp]
 |n :: l,i+1,h=>by
  have ih:=zex l i (by simpa using h);rw[KG];have e2:∀j,(q8 (n :: l))[j+2]?=(q8 l)[j]?:=fun j=>by
   show ([Value.int .i64 n.1,.int .i64 n.2]++q8 l)[j+2]?=_;rw[zrG (by simp)];simp
  rw[show (i+1)*2=i*2+2 by omega,show i*2+2+1=(i*2+1)+2 by omega,e2,e2];exact ih
structure zk(w:World)(v:Value)(l:List zf):Prop where
 form:∃a cap,v=.slice a l.length cap
 cells:∀i,i<l.length->∃g cap,v=.slice (some ⟨g,0,none⟩) l.length cap/\g<w.heap.size/\w.cell? ⟨g,i*2,none⟩=some (.int .i64 ((sp l i).1:Int))/\w.cell? ⟨g,i*2+1,none⟩=some (.int .i64 ((sp l i).2:Int))
theorem K4(w:World):zk w (.slice none 0 0) []:=⟨⟨none,0,rfl⟩,fun i h=>by simp at h⟩
theorem zk.below{B:Nat}{w w':World}{v:Value}{l:List zf}(h:zk w v l)(hb:Below B w w')(hB:w.heap.size<=B):zk w' v l :=
 ⟨h.form,fun i hi=>by
  obtain⟨g,j,e,hg,c0,c1⟩:=h.cells i hi;exact ⟨g,j,e,zc6 hg hb.size,(hb.cell (p:=⟨g,i * 2,none⟩) (by show g<B;omega)).trans c0,(hb.cell (p:=⟨g,i * 2 + 1,none⟩) (by show g<B;omega)).trans c1⟩⟩
theorem zk.drew{w:World}{v:Value}{l:List zf}(h:zk w v l):zk w.drew v l:=⟨h.form,h.cells⟩
theorem Ko{B:Nat}{w:World}{v:Value}{l:List zf}(h:w.ownsRow B 254 2 v l.length (q8 l)):zk w v l:=by
 rcases h.2 with ⟨e,e0⟩|⟨g,p,u,e,hB,hg,hn,hm,y,o⟩
 ·exact⟨⟨none,0,by rw[e,e0]⟩,fun i hi=>by omega⟩
 ·refine⟨⟨_,_,e⟩,fun i hi=>?_⟩;have q:g<w.heap.size:=(h.lt g (by rw[e];rfl)).2;obtain⟨c0,c1⟩:=zex l i hi;have cell:∀j,j<l.length*2->w.cell? ⟨g,j,none⟩=(q8 l)[j]?:=fun j hj=>by
   rw[<-o,zrP,zc3 (by omega)];simp[World.cell?,hg]
  exact⟨g,p,e,q,(cell _ (by omega)).trans c0,(cell _ (by omega)).trans c1⟩
theorem zkW:∀{l:List zf} {lo:Nat},qV lo l->lo<=ALL+1->2*l.length+lo<=ALL+1:=by
 intro l
 induction l with
 |nil=>intro lo _ h;simpa using h
 |cons s r ih =>intro lo h j;obtain⟨h1,h2,h3,h4⟩:=h;have:=ih h4 (by omega);simp only[zrb];omega
theorem YB{l:List zf}(h:Rg l):l.length<=500000000:=by
 have:=zkW h (zf6 _);unfold ALL at this;omega
theorem zgT:(prog.info? 254).map (fun i=>(i.zero,i.size,i.bytes))=some (some (.agg #[(0:Int),(0:Int)]),2,16):=by kernel_rfl
theorem zct{B n:Nat}{w:World}{v:Value}{t:TypeId}{cs:List Value}(h:w.ownsRow B t 2 v n cs):∃a c,v=.slice a n c:=by
 rcases h.2 with ⟨e,e0⟩|⟨g,j,o,e,-⟩
 ·exact⟨none,0,by rw[e,e0]⟩
 ·exact⟨_,_,e⟩
theorem Jk(w:World)(A B:Value)(t:TypeId):∀(j:Nat) (u:Value),[A,B][j]?=some u->(w.alloc (.cells #[A,B] t)).cell? (Addr.add w.heap.size j)=some u:=by
 intro j u h
 match j,h with
 |0,h=>simp at h;subst h;simp[Addr.add]
 |1,h=>simp at h;subst h;simp[Addr.add]
 |j+2,h=>simp at h
theorem Qq{w w':World}{row:Option Nat}(hg:w.grownBy w' row){b i:Nat}(hb:b<w.heap.size)(hne:some b≠row):w'.cell? ⟨b,i,none⟩=w.cell? ⟨b,i,none⟩:=by
 unfold World.cell?;rw[hg.block b hb hne]
theorem XE{B n:Nat}{w:World}{v:Value}{t:TypeId}{cs:List Value}(h:w.ownsRow B t 2 v n cs){b:Nat}(hb:w.heap.size<=b):some b≠v.ownBlock:=fun e=>by
 have:=(h.lt b e.symm).2;omega
theorem KK{B n b:Nat}{w:World}{v x:Value}{t:TypeId}{cs:List Value}(h:w.ownsRow B t 2 v n cs)(hb:b<B):(w.setCell b x).ownsRow B t 2 v n cs:=by
 refine⟨h.1,?_⟩;rcases h.2 with h1|⟨g,j,o,h1,h2,h3,h4⟩
 ·exact .inl h1
 ·exact .inr ⟨g,j,o,h1,h2,(zrF _ _ _ g (by show g≠b;omega)).trans h3,h4⟩
theorem YI(w:World)(A:Value)(t:TypeId):(w.alloc (.cells #[A] t)).cell? w.heap.size=some A:=by simp
theorem Jf(w:World)(A B:Value)(t:TypeId):(w.alloc (.cells #[A,B] t)).cell? w.heap.size=some A/\(w.alloc (.cells #[A,B] t)).cell? ⟨w.heap.size,1,none⟩=some B:=⟨by simp,by simp⟩
theorem zeI(w:World)(A:Value)(t:TypeId):(w.alloc (.cells #[A] t)).frozen? w.heap.size=false:=by simp
structure zcY(w W:World)(A B C:Value):Prop where
 below:zB w W
 size:W.heap.size=w.heap.size+3
 c0:W.cell? w.heap.size=some A
 c1:W.cell? ⟨w.heap.size+1,0,none⟩=some B
 c2:W.cell? ⟨w.heap.size+1+1,0,none⟩=some C
 f2:W.frozen? ⟨w.heap.size+1+1,0,none⟩=false
theorem zaL(w:World)(A B C:Value)(t t' t'':TypeId):zcY w (((w.alloc (.cells #[A] t)).alloc (.cells #[B] t')).alloc (.cells #[C] t'')) A B C:=by
 have s1:(w.alloc (.cells #[A] t)).heap.size=w.heap.size+1:=zc1 _ _;have h1:=YI w A t;have h2:=YI (w.alloc (.cells #[A] t)) B t';have h3:=YI ((w.alloc (.cells #[A] t)).alloc (.cells #[B] t')) C t'';have f3:=zeI ((w.alloc (.cells #[A] t)).alloc (.cells #[B] t')) C t'';have s2:((w.alloc (.cells #[A] t)).alloc (.cells #[B] t')).heap.size=w.heap.size+1+1:=by rw[zc1,s1]
 have b1:zB w (w.alloc (.cells #[A] t)):=(zf0 _ w).alloc zN _;have b2:Below (w.heap.size+1) (w.alloc (.cells #[A] t)) ((w.alloc (.cells #[A] t)).alloc (.cells #[B] t')):=zF.alloc (by omega) _;have b3:Below (w.heap.size+1+1) ((w.alloc (.cells #[A] t)).alloc (.cells #[B] t')) (((w.alloc (.cells #[A] t)).alloc (.cells #[B] t')).alloc (.cells #[C] t'')):=zF.alloc (by omega) _;rw[s1] at h2;rw[s2] at h3 f3;refine⟨b1.trans ((b2.mono (by omega)).trans (b3.mono (by omega))),by rw[zc1,s2],?_,?_,h3,f3⟩
 ·exact(b3.cell (p:=w) (by show w.heap.size<_;omega)).trans ((b2.cell (p:=w) (by show w.heap.size<_;omega)).trans h1)
 ·exact(b3.cell (p:=⟨w.heap.size+1,0,none⟩) (by show w.heap.size+1<_;omega)).trans h2
structure Kv(w W:World)(bs bt:Nat)(A T C D:Value):Prop where
 below:zB w W
 hs:w.heap.size<=bs
 ht:w.heap.size<=bt
 ls:bs<W.heap.size
 lt:bt<W.heap.size
 s0:W.cell? bs=some A
 s1:W.cell? ⟨bs,1,none⟩=some T
 t0:W.cell? bt=some C
 t1:W.cell? ⟨bt,1,none⟩=some D
theorem zf7(w:World)(A T C D:Value)(t t':TypeId):Kv w ((w.alloc (.cells #[A,T] t)).alloc (.cells #[C,D] t')).drew w.heap.size (w.heap.size+1) A T C D:=by
 have s1:(w.alloc (.cells #[A,T] t)).heap.size=w.heap.size+1:=zc1 _ _;have s2:((w.alloc (.cells #[A,T] t)).alloc (.cells #[C,D] t')).heap.size=w.heap.size+1+1:=by rw[zc1,s1]
 have b1:zB w (w.alloc (.cells #[A,T] t)):=(zf0 _ w).alloc zN _;have b2:Below (w.heap.size+1) (w.alloc (.cells #[A,T] t)) ((w.alloc (.cells #[A,T] t)).alloc (.cells #[C,D] t')).drew:=(zF.alloc (by omega) _).drew;have h1:=Jf w A T t;have h2:=Jf (w.alloc (.cells #[A,T] t)) C D t';rw[s1] at h2;have ls:w.heap.size<((w.alloc (.cells #[A,T] t)).alloc (.cells #[C,D] t')).drew.heap.size:=by show w.heap.size<((w.alloc (.cells #[A,T] t)).alloc (.cells #[C,D] t')).heap.size;omega
 have lt:w.heap.size+1<((w.alloc (.cells #[A,T] t)).alloc (.cells #[C,D] t')).drew.heap.size:=by show w.heap.size+1<((w.alloc (.cells #[A,T] t)).alloc (.cells #[C,D] t')).heap.size;omega
 exact⟨b1.trans (b2.mono (by omega)),zri _,by omega,ls,lt,(b2.cell (p:=w) (by show w.heap.size<_;omega)).trans h1.1,(b2.cell (p:=⟨w.heap.size,1,none⟩) (by show w.heap.size<_;omega)).trans h1.2,h2.1,h2.2⟩
theorem zjN(w:World)(A T C D:Value)(t t':TypeId):Kv w ((w.alloc (.cells #[C,D] t')).alloc (.cells #[A,T] t)).drew (w.heap.size+1) w.heap.size A T C D:=by
 have h:=zf7 w C D A T t' t;exact⟨h.below,h.ht,h.hs,h.lt,h.ls,h.t0,h.t1,h.s0,h.s1⟩
theorem Kv.drewN{w W:World}{bs bt:Nat}{A T C D:Value}(h:Kv w W bs bt A T C D)(n:Nat):Kv w (W.drewN n) bs bt A T C D:=by
 induction n with
 |zero=>exact h
 |succ n ih=>exact⟨⟨ih.below.os,ih.below.tape,ih.below.output,ih.below.size,ih.below.block⟩,ih.hs,ih.ht,ih.ls,ih.lt,ih.s0,ih.s1,ih.t0,ih.t1⟩
theorem zeo{B n b:Nat}{w w':World}{v:Value}{t:TypeId}{cs:List Value}(h:w.ownsRow B t 2 v n cs)(hb:Below b w w')(hB:w.heap.size<=b):w'.ownsRow B t 2 v n cs:=by
 refine⟨h.1,?_⟩;rcases h.2 with h1|⟨g,j,o,h1,h2,h3,h4⟩
 ·exact .inl h1
 ·exact .inr ⟨g,j,o,h1,h2,(hb.block g (by have:=(h.lt g (by rw[h1];rfl)).2;omega)).trans h3,h4⟩
def Q4(w:World)(l:List zf)(e:Ending)(w':World):Prop:=∃v',e=.returned (.agg #[v'])/\zk w' v' l/\(∀g,v'.ownBlock=some g->w.heap.size<=g)/\zB w w'
theorem zk.set{w:World}{v x:Value}{l:List zf}{b:Nat}(h:zk w v l)(hn:v.ownBlock≠some b):zk (w.setCell b x) v l :=
 ⟨h.form,fun i hi=>by
  obtain⟨g,j,e,hg,c0,c1⟩:=h.cells i hi;have o:g≠b:=fun e'=>hn (by rw[e,e'];rfl);have hh:=zrF w b x g o;refine⟨g,j,e,zc6 hg ((zf0 0 w).setCell (p:=b) (zf6 _) x).size,?_,?_⟩
  ·rw[<-c0];unfold World.cell?;rw[hh]
  ·rw [<- c1];unfold World.cell?;rw [hh]⟩
end
section
open Go.Shelf Go.Sort Sv
structure Lb(w:World):Prop where
 ml:∃n,w.cell? ⟨5,0,none⟩=some (.int .i64 n)
 es:∃ev,w.cell? ⟨10,0,none⟩=some ev/\(ev=.nilIface\/∃te pe,ev=.iface te pe)
 er:∃ev,w.cell? ⟨11,0,none⟩=some ev/\(ev=.nilIface\/∃te pe,ev=.iface te pe)
 tab:Lib.TabIs prog w "internal/strconv.uint64pow10" .u64 Lib.pow10Tab
 glob:ZK w
 big:12<=w.heap.size
theorem Lb.below{w w':World}(h:Lb w)(hb:zB w w'):Lb w':=by
 have j:=h.big;obtain⟨n,h1⟩:=h.ml;obtain⟨e3,h3,o⟩:=h.es;obtain⟨e4,h4,q⟩:=h.er;exact⟨⟨n,(hb.cell (p:=⟨5,0,none⟩) (by show 5<_;omega)).trans h1⟩,⟨e3,(hb.cell (p:=⟨10,0,none⟩) (by show 10<_;omega)).trans h3,o⟩,⟨e4,(hb.cell (p:=⟨11,0,none⟩) (by show 11<_;omega)).trans h4,q⟩,Lib.tabBelow_of_tabIs h.tab w' hb,h.glob.below hb,zf1 j hb.size⟩
def yp(l:List UInt8):Except Int Nat :=
 match Lib.parseIntB 64 l with
 |.ok v=>if v<0\/Lib.itoa v≠l then .error 3 else if 999<v then .error 2 else .ok v.toNat
 |_=>.error 3
def zgA:Except Int Nat->Value
 |.ok n=>.tuple #[n,.nilIface]
 |.error k=>.tuple #[(0:Int),.iface 53 (.int .i64 k)]
theorem zbv(B:Nat)(w:World)(k:Nat)(os:Array Obj)(h:B<=w.heap.size):Below B w (grow (w.drewN k) os):=Lib.below_grow _ w h k os
theorem zcD(w:World)(t:ByteArray):zB w (Lib.bytesWorld w 5 t):=by
 have h:=((zf0 w.heap.size w).drew).alloc zN (.cells (Lib.bytesCells w 5 t) 5);refine⟨h.os,h.tape,h.output,?_,fun k hk=>?_⟩
 ·exact zf1 h.size (by simp[Lib.bytesWorld,World.freeze])
 ·rw[<-h.block k hk];simp only[Lib.bytesWorld,World.freeze];rw[zc2 (by decide),zuL,zc2 (by omega)]
theorem zcW{l:List UInt8}{v:Int}(h:Lib.parseIntB 64 l=.ok v):-9223372036854775808<=v/\v<=9223372036854775807:=by
 unfold Lib.parseIntB at h;split at h
 ·cases h
 ·simp only at h;split at h
  ·cases h
  ·cases h
  ·split at h
   ·cases h
   ·split at h
    ·cases h
    ·cases h;split<;>simp_all<;>omega
theorem zeW(s:ByteArray)(w:World)(hs:s.size<=100000)(hw:Lb w)(h:∀v,Lib.parseIntB 64 s.data.toList≠.ok v) :
  zR 129 #[s] w (.tuple #[(0:Int),.iface 53 (.int .i64 3)]):=by
 have H:Hid (zC 174 #[s,(10:Int),(64:Int)] w fun e w'=>∃N x,e=.returned (.tuple #[.int .i64 x,.iface 353 (.pointer (some ⟨N,0,none⟩))])/\zB w w'):=by
  cases hp:Lib.parseIntB 64 s.data.toList with
  |ok v=>exact absurd hp (h v)
  |«syntax» =>obtain⟨ev,h3,j⟩:=hw.es;exact(Tryz.strconv_ParseInt_10_at64_syntax s (by omega) hp ev w h3 j).mono fun e w' ⟨N,he,_,_,hb⟩=>⟨N,_,he,hb⟩
  |range =>obtain⟨ev,h3,j⟩:=hw.er;exact(Tryz.strconv_ParseInt_10_at64_range s (by omega) hp ev w h3 j).mono fun e w' ⟨N,he,_,_,hb⟩=>⟨N,_,he,hb⟩
 clear h hw;go_enter zvd,zuX;go_wp2_with fail;refine H.out.mono ?_;rintro e w1 ⟨N,x,rfl,hb⟩;have HB:=zH hb;clear hb H;go_wp2;go_ret2;exact⟨rfl,HB.out⟩
theorem zjO(s:ByteArray)(w:World)(hs:s.size<=100000)(hw:Lb w)(v:Int)(h:Lib.parseIntB 64 s.data.toList=.ok v) :
  zR 129 #[s] w (zgA (if v<0\/Lib.itoa v≠s.data.toList then .error 3 else if 999<v then .error 2 else .ok v.toNat)):=by
 obtain⟨r0,r1⟩:=zcW h;have H:Hid (zR 174 #[s,(10:Int),(64:Int)] w (.tuple #[v,.nilIface])):=(Tryz.strconv_ParseInt_10_at64_ok s (by omega) v h w).mono fun e w' ⟨he,p⟩=>by
  refine⟨he,?_⟩;rcases p with rfl|⟨t,rfl⟩
  ·exact zf0 _ _
  ·exact zcD w t
 have HF:Hid (∀W,zB w W->zR 175 #[v,(10:Int)] W (.string ⟨(Lib.itoa v).toArray⟩)):=fun W hb=>(Tryz.strconv_FormatInt_10 v r0 r1 W (hw.below hb).tab).mono fun e w' ⟨he,k,os,p⟩=>⟨he,p▸zbv _ W k os zN⟩;clear h hw
 by_cases hneg:v<0
 ·rw[zc3 (Or.inl hneg)];go_enter zvd,zuX;go_wp2_with fail;refine H.out.mono ?_;rintro e w1 ⟨rfl,hb⟩;have HB:=zH hb;clear hb H;go_wp2;go_ret2;exact⟨rfl,HB.out⟩
 ·generalize Lib.itoa v=l at *
  by_cases hl:l=s.data.toList
  ·have q:(l==s.toList)=true:=by rw[ByteArray.toList_eq,hl];simp
   rw[zc2 (by rintro (h|h);exact hneg h;exact h hl)];clear hl
   by_cases hbig:999<v
   ·rw[zc3 hbig];go_enter zvd,zuX;go_wp2_with fail;refine H.out.mono ?_;rintro e w1 ⟨rfl,hb⟩;have H2:=zH (HF.out _ hb);have HB:=zH hb;clear hb H HF;go_wp2_with fail;refine H2.out.mono ?_;rintro e w2 ⟨rfl,j⟩;have o:Hid (zB w w2):=zT HB.out j;clear j H2 HB;go_wp2;go_ret2;exact⟨rfl,o.out⟩
   ·rw[zc2 hbig];have hv:((v.toNat:Nat):Int)=v:=by omega
    go_enter zvd,zuX;go_wp2_with fail;refine H.out.mono ?_;rintro e w1 ⟨rfl,hb⟩;have H2:=zH (HF.out _ hb);have HB:=zH hb;have HV:=zH hv;clear hb H HF hv;go_wp2_with fail;refine H2.out.mono ?_;rintro e w2 ⟨rfl,j⟩;have o:Hid (zB w w2):=zT HB.out j;clear j H2 HB;go_wp2;go_ret2;exact⟨(show Ending.returned (.tuple #[v,.nilIface])=.returned (.tuple #[.int .i64 ((v.toNat:Nat):Int),.nilIface]) by rw[HV.out]),o.out⟩
  ·have q:(l==s.toList)=false:=by rw[ByteArray.toList_eq];simpa using hl
   rw[zc3 (Or.inr hl)];clear hl;go_enter zvd,zuX;go_wp2_with fail;refine H.out.mono ?_;rintro e w1 ⟨rfl,hb⟩;have H2:=zH (HF.out _ hb);have HB:=zH hb;clear hb H HF;go_wp2_with fail;refine H2.out.mono ?_;rintro e w2 ⟨rfl,j⟩;have o:Hid (zB w w2):=zT HB.out j;clear j H2 HB;go_wp2;go_ret2;exact⟨rfl,o.out⟩
theorem zqQ(s:ByteArray)(w:World)(hs:s.size<=100000)(hw:Lb w) :
  zR 129 #[s] w (zgA (yp s.data.toList)):=by
 cases h:Lib.parseIntB 64 s.data.toList with
 |ok v=>unfold yp;rw[h];exact zjO s w hs hw v h
 |«syntax»=>unfold yp;rw[h];exact zeW s w hs hw (fun v e=>by rw[h] at e;cases e)
 |range=>unfold yp;rw[h];exact zeW s w hs hw (fun v e=>by rw[h] at e;cases e)
end
section
open Go.Shelf Sv
theorem zho:∀(l:List UInt8) (c:UInt8),(Lib.index l [c]<0/\l.count c=0)\/∃j:Nat,Lib.index l [c]=(j:Int)/\l.count c=(l.drop (j+1)).count c+1:=by
 intro l c
 induction l with
 |nil=>exact .inl ⟨by simp[Lib.index],by simp⟩
 |cons b l ih =>
  by_cases h:c=b
  ·subst h;refine .inr ⟨0,?_,by simp⟩;unfold Lib.index;simp[List.isPrefixOf]
  ·have hp:List.isPrefixOf [c] (b :: l)=false:=by simp[List.isPrefixOf,h]
   have o:(b :: l).count c=l.count c:=List.count_cons_of_ne (by simpa using fun e=>h e.symm);rcases ih with ⟨h1,h2⟩|⟨j,h1,h2⟩
   ·refine .inl ⟨?_,by rw[o,h2]⟩;have:Lib.index l [c]=-1:=by have:=Lib.index_ge l [c];omega
    unfold Lib.index;rw[hp,this];simp
   ·refine .inr ⟨j+1,?_,by rw[o,h2];simp⟩;unfold Lib.index;rw[hp,h1];simp
theorem zap(s:ByteArray)(c:UInt8):∀(f k:Nat),s.size<=k+f->k<=s.size->(zq s ⟨#[c]⟩ f k).length=(s.data.toList.drop k).count c+1:=by
 intro f
 induction f with
 |zero =>
  intro k h1 h2;obtain rfl:k=s.size:=by omega
  have:s.data.toList.drop s.size=[]:=List.drop_eq_nil_of_le (by simp);rw[this];simp[zq]
 |succ f ih =>
  intro k h1 h2;have hx:(s.extract k s.size).data.toList=s.data.toList.drop k:=Lib.extract_to_end s k;have hl:s.data.toList.length=s.size:=by simp
  rcases zho (s.data.toList.drop k) c with ⟨h3,h4⟩|⟨j,h3,h4⟩
  ·rw[Kt (by rw[hx];exact h3),h4];rfl
  ·rw[Je (j:=j) (by rw[hx];exact h3),zrb];have hr:=YX (s.data.toList.drop k) [c] (by rw[h3];omega);rw[h3] at hr;simp only[zrK,zrb,zrY,zrh,hl] at hr;have hm:(⟨#[c]⟩:ByteArray).size=1:=rfl;rw[ih _ (by rw[hm];omega) (by rw[hm];omega),h4,hm,List.drop_drop];congr 3
def qJ:List (Nat × ByteArray)->Except Int (List Nat)
 |[]=>.ok []
 |x :: r=>match yp x.2.data.toList with
  |.error k=>.error k
  |.ok n=>match qJ r with
   |.error k=>.error k
   |.ok ns=>.ok (n :: ns)
theorem zaM:∀{l:List (Nat × ByteArray)} {ns:List Nat},qJ l=.ok ns->ns.length=l.length:=by
 intro l
 induction l with
 |nil=>intro ns h;cases h;rfl
 |cons x r ih =>
  intro ns h;unfold qJ at h;split at h
  ·cases h
  ·split at h
   ·cases h
   ·rename_i ns' h';cases h;simp[ih h']
theorem zee{l r:List (Nat × ByteArray)}{k:Int}(h:qJ l=.error k):qJ (l++r)=.error k:=by
 induction l with
 |nil=>cases h
 |cons x l ih =>
  unfold qJ at h;rw[zrL,qJ];split at h
  ·exact h
  ·split at h
   ·rename_i h'';cases h;rw[ih h'']
   ·cases h
theorem zew{l:List (Nat × ByteArray)}{ns:List Nat}(h:qJ l=.ok ns)(x:Nat × ByteArray):qJ (l++[x])=match yp x.2.data.toList with
  |.error k=>.error k
  |.ok n=>.ok (ns++[n]):=by
 induction l generalizing ns with
 |nil =>cases h;rw[zrX,qJ];cases yp x.2.data.toList<;>rfl
 |cons y l ih =>
  unfold qJ at h;rw[zrL,qJ];split at h
  ·cases h
  ·split at h
   ·cases h
   ·rename_i h'';cases h;rw[ih h''];cases yp x.2.data.toList<;>rfl
def zO(s:ByteArray):Except Int (List Nat):=if s.data.toList.count 46=2 then qJ (zq s ⟨#[46]⟩ s.size 0) else .error 3
def xK(ns:List Nat):Array Value:=#[.int .i64 ((ns.getD 0 0:Nat):Int),.int .i64 ((ns.getD 1 0:Nat):Int),.int .i64 ((ns.getD 2 0:Nat):Int)]
def Qs:Except Int (List Nat)->Value
 |.ok ns=>.tuple #[.agg (xK ns),.nilIface]
 |.error k=>.tuple #[.agg #[(0:Int),(0:Int),(0:Int)],.iface 53 (.int .i64 k)]
theorem zqy{l:List UInt8}{n:Nat}(h:yp l=.ok n):n<=999:=by
 unfold yp at h;split at h
 ·split at h
  ·cases h
  ·split at h
   ·cases h
   ·cases h;omega
 ·cases h
theorem zkL:∀{l:List (Nat × ByteArray)} {ns:List Nat},qJ l=.ok ns->∀n∈ns,n<=999:=by
 intro l
 induction l with
 |nil=>intro ns h n hn;cases h;cases hn
 |cons x r ih =>
  intro ns h n hn;unfold qJ at h;split at h
  ·cases h
  ·rename_i h0;split at h
   ·cases h
   ·rename_i ns' h';cases h;rcases zrw.1 hn with rfl|hn
    ·exact zqy h0
    ·exact ih h' n hn
theorem YU{s:ByteArray}{ns:List Nat}(h:zO s=.ok ns):ns.length=3/\∀n∈ns,n<=999:=by
 unfold zO at h;split at h
 ·rename_i hc;refine⟨?_,zkL h⟩;rw[zaM h,zap s 46 s.size 0 (by omega) (zf6 _),ztn,hc]
 ·cases h
end
section
open Go.Shelf Sv
attribute [local go_sem] Oper.semAt_some
abbrev z3:Array Value:=#[.int .i64 0,.int .i64 0,.int .i64 0]
theorem zlx{ns:List Nat}(h:ns.length<3)(n:Nat):xK (ns++[n])=(xK ns).setIfInBounds ns.length (.int .i64 n):=by
 match ns,h with
 |[],_=>rfl
 |[a],_=>rfl
 |[a,b],_=>rfl
theorem zlA(s:ByteArray)(w:World)(hs:s.size<=100000)(hw:Lb w)(hc:s.data.toList.count 46=2) :
  CallsIn Fence.wide 4 prog 81 #[s] w fun e w'=>e=.returned (Qs (qJ (zq s ⟨#[46]⟩ s.size 0)))/\zB w w':=by
 have HC:Hid (∀W,CallsIn Fence.wide 3 prog 117 #[s,.string ⟨#[46]⟩] W fun e w'=>e=.returned (.int .i64 2)/\w'=W):=fun W=>callsIn_wide.2 (by have:=Tryz.strings_Count_one s 46 W;unfold Lib.countByte at this;rw[hc] at this;exact this);have HP:Hid (∀W,CallsIn Fence.wide 3 prog 128 #[s,.string ⟨#[46]⟩] W fun e w'=>e=.returned (.func (.func 181) #[] #[.pointer (some W),.pointer (some ⟨W.heap.size+1,0,none⟩)])/\w'=(W.alloc (.cells #[s] 9)).alloc (.cells #[.string ⟨#[46]⟩] 9)):=fun W=>zcc s ⟨#[46]⟩ W;have hN:(zq s ⟨#[46]⟩ s.size 0).length=3:=by rw[zap s 46 s.size 0 (by omega) (zf6 _),ztn,hc]
 have HL:=zH hw;have aw:=hw.big;clear hc hw;refine callsIn_of_wp_marks func81 rfl trivial ?_ rfl;simp only[ntmps81,zrT,zrb,zrY,Nat.reduceAdd,Nat.reduceSub,zr6,zr5,zsq,zsb,zrX,zrL]
 gi_wp2_with (first
  |(refine⟨trivial,?_⟩;gi_at_call 117;refine(HC.out _).mono ?_;rintro e w' ⟨rfl,rfl⟩)
  | (refine ⟨trivial,?_⟩;gi_at_call 128;refine (HP.out _).mono ?_;rintro e w' ⟨rfl,rfl⟩))
 clear HC HP;have k0:=(((((Blk.new w 102 z3).alloc (.cells #[.nilIface] 31)).alloc (.cells z3 102)).alloc (.cells #[(0:Int)] 3)).alloc (.cells #[s] 9)).alloc (.cells #[.string ⟨#[46]⟩] 9);have k1:=((((Blk.new (w.alloc (.cells z3 102)) 31 #[.nilIface]).alloc (.cells z3 102)).alloc (.cells #[(0:Int)] 3)).alloc (.cells #[s] 9)).alloc (.cells #[.string ⟨#[46]⟩] 9);have k2:=(((Blk.new ((w.alloc (.cells z3 102)).alloc (.cells #[.nilIface] 31)) 102 z3).alloc (.cells #[(0:Int)] 3)).alloc (.cells #[s] 9)).alloc (.cells #[.string ⟨#[46]⟩] 9);have k3:=((Blk.new (((w.alloc (.cells z3 102)).alloc (.cells #[.nilIface] 31)).alloc (.cells z3 102)) 3 #[(0:Int)]).alloc (.cells #[s] 9)).alloc (.cells #[.string ⟨#[46]⟩] 9);have k4:=(Blk.new ((((w.alloc (.cells z3 102)).alloc (.cells #[.nilIface] 31)).alloc (.cells z3 102)).alloc (.cells #[(0:Int)] 3)) 9 #[s]).alloc (.cells #[.string ⟨#[46]⟩] 9);have k5:=Blk.new (((((w.alloc (.cells z3 102)).alloc (.cells #[.nilIface] 31)).alloc (.cells z3 102)).alloc (.cells #[(0:Int)] 3)).alloc (.cells #[s] 9)) 9 #[.string ⟨#[46]⟩];simp only[zc1] at k1 k2 k3 k4 k5;have X:zB w ((((((w.alloc (.cells z3 102)).alloc (.cells #[.nilIface] 31)).alloc (.cells z3 102)).alloc (.cells #[(0:Int)] 3)).alloc (.cells #[s] 9)).alloc (.cells #[.string ⟨#[46]⟩] 9)):=((((((zf0 _ w).alloc zN _).alloc (by simp only[zc1];omega) _).alloc (by simp only[zc1];omega) _).alloc (by simp only[zc1];omega) _).alloc (by simp only[zc1];omega) _).alloc (by simp only[zc1];omega) _;have ax:((((((w.alloc (.cells z3 102)).alloc (.cells #[.nilIface] 31)).alloc (.cells z3 102)).alloc (.cells #[(0:Int)] 3)).alloc (.cells #[s] 9)).alloc (.cells #[.string ⟨#[46]⟩] 9)).heap.size=w.heap.size+1+1+1+1+1+1:=by simp only[zc1]
 obtain⟨W0,a4⟩:∃W0,(((((w.alloc (.cells z3 102)).alloc (.cells #[.nilIface] 31)).alloc (.cells z3 102)).alloc (.cells #[(0:Int)] 3)).alloc (.cells #[s] 9)).alloc (.cells #[.string ⟨#[46]⟩] 9)=W0:=⟨_,rfl⟩;rw[a4] at k0 k1 k2 k3 k4 k5 X ax ⊢;clear a4;obtain⟨n,hn⟩:=(HL.out.below X).ml;have c4:_=some (Value.string s):=k4.cell 0;have c5:_=some (Value.string ⟨#[46]⟩):=k5.cell 0;refine wpIn_rangeFunc_ownF rfl (by omega) (gf:=181) (lb:=#[.pointer (some ⟨w.heap.size+1+1+1+1,0,none⟩),.pointer (some ⟨w.heap.size+1+1+1+1+1,0,none⟩)]) rfl trivial (enters_of func181 (by kernel_rfl) rfl)
  (zb1 (w.heap.size+1+1+1+1) (w.heap.size+1+1+1+1+1) s ⟨#[46]⟩ hs (by decide) W0 (by omega) (by omega) (by omega) c4 c5 n hn) JV (za0 (by omega) (by omega) (by omega)) zF (fun _=>rfl)
  (fun q W=>((Blk W w.heap.size 102 z3/\Blk W (w.heap.size+1) 31 #[.nilIface])/\(∃ns,qJ (zW q)=.ok ns/\Blk W (w.heap.size+1+1) 102 (xK ns)/\Blk W (w.heap.size+1+1+1) 3 #[ns.length]))/\(zB w W/\w.heap.size+1+1+1+1+1+1<=W.heap.size))
  (fun c q W=>(c=.ret/\∃k,qJ (zW q)=.error k/\Blk W w.heap.size 102 z3/\Blk W (w.heap.size+1) 31 #[.iface 53 (.int .i64 k)])/\zB w W)
  (OwnFrom.and (Own.from (fun q A B row hs hg hr=>⟨⟨Yi _ _ (fun _:Unit=>z3) () A B row hs.1.1 hg hr,Yi _ _ (fun _:Unit=>#[.nilIface]) () A B row hs.1.2 hg hr⟩,by
   obtain⟨ns,h1,h2,h3⟩:=hs.2;exact ⟨ns,h1,Yi _ _ (fun _:Unit=>xK ns) () A B row h2 hg hr,Yi _ _ (fun _:Unit=>#[ns.length]) () A B row h3 hg hr⟩⟩) _) (OwnFrom.and (ownFrom_below zN (by omega)) (zkH _ _)))
  (fun c=>OwnFrom.and (Own.from (fun q A B row hs hg hr=>⟨hs.1,by
   obtain⟨k,h1,h2,h3⟩:=hs.2;exact ⟨k,h1,Yi _ _ (fun _:Unit=>z3) () A B row h2 hg hr,Yi _ _ (fun _:Unit=>#[.iface 53 (.int .i64 k)]) () A B row h3 hg hr⟩⟩) _) (ownFrom_below zN (by omega)))
  ⟨⟨⟨k0,k1⟩,[],rfl,k2,k3⟩,X,by omega⟩
  (fun x=>{ tmps:=#[.string s,undef,.pointer (some w),.pointer (some ⟨w.heap.size+1,0,none⟩),.pointer (some ⟨w.heap.size+1+1,0,none⟩),.pointer (some ⟨w.heap.size+1+1+1,0,none⟩),undef,.string x.1.2,undef,undef,.string s,.int .i64 2,.bool false,undef,undef,.string s,.func (.func 181) #[] #[.pointer (some ⟨w.heap.size+1+1+1+1,0,none⟩),.pointer (some ⟨w.heap.size+1+1+1+1+1,0,none⟩)],.int .i64 x.1.1,.string x.1.2,undef,undef,undef,undef,undef,undef,undef,undef,undef,undef,undef,undef,undef,undef,undef],defers:=[] }) ?assign ?body ?done ?stop
 case assign =>
  intro l x W K hK
  gi_wp2
  exact hK
 case body =>
  rintro l q x W ⟨⟨⟨j0,j1⟩,ns,j,j2,j3⟩,hB,Z⟩ hlen;have a9:=zaM j;rw[zrs] at a9;have U:ns.length<3:=by omega
  clear a9;have HP:=zH (zqQ x.1.2 W x.2.2 (HL.out.below hB));have aa:=zew j x.1;have R:Hid (qJ (zW (q++[x]))=match yp x.1.2.data.toList with
   |.error k=>.error k
   | .ok n=>.ok (ns++[n])):=by rw [zW,zrv];exact aa
  clear aa;cases hp:yp x.1.2.data.toList with
  |error k =>
   rw[hp] at HP R;have C:Hid (zR 129 #[x.1.2] W (.tuple #[(0:Int),.iface 53 (.int .i64 k)])):=HP.out;clear hp HP
   gi_wp2_with fail
   refine⟨trivial,?_⟩;refine(CallsIn.inRound l (callsIn_wide.2 C.out)).mono ?_;rintro e W' ⟨rfl,hb⟩;have m0:=j0.below hb j0.lt;have m1:=j1.below hb j1.lt;have d0:W'.cell? w.heap.size=some (.int .i64 0):=m0.cell 0;have d1:W'.cell? ⟨w.heap.size,1,none⟩=some (.int .i64 0):=m0.cell 1;have d2:W'.cell? ⟨w.heap.size,2,none⟩=some (.int .i64 0):=m0.cell 2;have e0:=m0.frozen 0;have e1:=m0.frozen 1;have e2:=m0.frozen 2;have d3:W'.cell? ⟨w.heap.size+1,0,none⟩=some .nilIface:=m1.cell 0;have e3:=m1.frozen 0;have J:zB w W':=zT hB hb;have M:=Zi hb;have HX:Hid (KeepsOthers W ((((W'.setCell w (.int .i64 0)).setCell ⟨w.heap.size,1,none⟩ (.int .i64 0)).setCell ⟨w.heap.size,2,none⟩ (.int .i64 0)).setCell ⟨w.heap.size+1,0,none⟩ (.iface 53 (.int .i64 k)))):=(((M.trans (KeepsOthers.setCell _ _ _)).trans (KeepsOthers.setCell _ _ _)).trans (KeepsOthers.setCell _ _ _)).trans (KeepsOthers.setCell _ _ _);have ac:Hid (zB w ((((W'.setCell w (.int .i64 0)).setCell ⟨w.heap.size,1,none⟩ (.int .i64 0)).setCell ⟨w.heap.size,2,none⟩ (.int .i64 0)).setCell ⟨w.heap.size+1,0,none⟩ (.iface 53 (.int .i64 k)))):=(((J.setCell (p:=w) zN _).setCell (p:=⟨w.heap.size,1,none⟩) zN _).setCell (p:=⟨w.heap.size,2,none⟩) zN _).setCell (p:=⟨w.heap.size+1,0,none⟩) (zrr _) _;have ae:Hid (Blk ((((W'.setCell w (.int .i64 0)).setCell ⟨w.heap.size,1,none⟩ (.int .i64 0)).setCell ⟨w.heap.size,2,none⟩ (.int .i64 0)).setCell ⟨w.heap.size+1,0,none⟩ (.iface 53 (.int .i64 k))) w.heap.size 102 z3):=(((m0.set (i:=0) (v:=.int .i64 0)).set (i:=1) (v:=.int .i64 0)).set (i:=2) (v:=.int .i64 0)).other (by omega);have af:Hid (Blk ((((W'.setCell w (.int .i64 0)).setCell ⟨w.heap.size,1,none⟩ (.int .i64 0)).setCell ⟨w.heap.size,2,none⟩ (.int .i64 0)).setCell ⟨w.heap.size+1,0,none⟩ (.iface 53 (.int .i64 k))) (w.heap.size+1) 31 #[.iface 53 (.int .i64 k)]):=(((m1.other (by omega)).other (by omega)).other (by omega)).set (i:=0);clear j0 j1 j2 j3 hb hB J M m0 m1 C
   gi_wp2
   exact⟨HX.out,⟨rfl,k,R.out,ae.out,af.out⟩,ac.out⟩
  |ok n =>
   rw[hp] at HP R;have C:Hid (zR 129 #[x.1.2] W (.tuple #[n,.nilIface])):=HP.out;clear hp HP
   gi_wp2_with fail
   refine⟨trivial,?_⟩;refine(CallsIn.inRound l (callsIn_wide.2 C.out)).mono ?_;rintro e W' ⟨rfl,hb⟩;have m0:=j0.below hb j0.lt;have m1:=j1.below hb j1.lt;have m2:=j2.below hb j2.lt;have m3:=j3.below hb j3.lt;have d3:W'.cell? ⟨w.heap.size+1+1+1,0,none⟩=some (.int .i64 ns.length):=m3.cell 0;have e3:=m3.frozen 0;have g3:(W'.setCell ⟨w.heap.size+1+1,ns.length,none⟩ (.int .i64 n)).cell? ⟨w.heap.size+1+1+1,0,none⟩=some (.int .i64 ns.length):=(m3.other (by omega)).cell 0;have g4:(W'.setCell ⟨w.heap.size+1+1,ns.length,none⟩ (.int .i64 n)).frozen? ⟨w.heap.size+1+1+1,0,none⟩=false:=(m3.other (by omega)).frozen 0;obtain⟨y,hy⟩:∃y,(xK ns)[ns.length]?=some (.int .i64 y):=by
    match ns,U with
    |[],_=>exact⟨_,rfl⟩
    |[a],_=>exact⟨_,rfl⟩
    |[a,b],_=>exact⟨_,rfl⟩
   have d2:W'.cell? ⟨w.heap.size+1+1,ns.length,none⟩=some (.int .i64 y):=(m2.cell ns.length).trans hy;have e2:=m2.frozen ns.length;have J:zB w W':=zT hB hb;have M:=Zi hb;have a1:KeepsOthers W ((W'.setCell ⟨w.heap.size+1+1,ns.length,none⟩ (.int .i64 n)).setCell ⟨w.heap.size+1+1+1,0,none⟩ (.int .i64 ((ns.length:Int)+1))):=(M.trans (KeepsOthers.setCell _ _ _)).trans (KeepsOthers.setCell _ _ _);have a7:zB w ((W'.setCell ⟨w.heap.size+1+1,ns.length,none⟩ (.int .i64 n)).setCell ⟨w.heap.size+1+1+1,0,none⟩ (.int .i64 ((ns.length:Int)+1))):=(J.setCell (p:=⟨w.heap.size+1+1,ns.length,none⟩) (by show w.heap.size<=w.heap.size+1+1;omega) _).setCell (p:=⟨w.heap.size+1+1+1,0,none⟩) (by show w.heap.size<=w.heap.size+1+1+1;omega) _;have n0:Blk ((W'.setCell ⟨w.heap.size+1+1,ns.length,none⟩ (.int .i64 n)).setCell ⟨w.heap.size+1+1+1,0,none⟩ (.int .i64 ((ns.length:Int)+1))) w.heap.size 102 z3:=(m0.other (by omega)).other (by omega);have n1:Blk ((W'.setCell ⟨w.heap.size+1+1,ns.length,none⟩ (.int .i64 n)).setCell ⟨w.heap.size+1+1+1,0,none⟩ (.int .i64 ((ns.length:Int)+1))) (w.heap.size+1) 31 #[.nilIface]:=(m1.other (by omega)).other (by omega);have n2:Blk ((W'.setCell ⟨w.heap.size+1+1,ns.length,none⟩ (.int .i64 n)).setCell ⟨w.heap.size+1+1+1,0,none⟩ (.int .i64 ((ns.length:Int)+1))) (w.heap.size+1+1) 102 (xK (ns++[n])):=by rw[zlx U];exact(m2.set (i:=ns.length)).other (by omega)
   have n3:Blk ((W'.setCell ⟨w.heap.size+1+1,ns.length,none⟩ (.int .i64 n)).setCell ⟨w.heap.size+1+1+1,0,none⟩ (.int .i64 ((ns.length:Int)+1))) (w.heap.size+1+1+1) 3 #[.int .i64 (((ns++[n]).length:Nat):Int)]:=by
    have:=(m3.other (b':=w.heap.size+1+1) (i:=ns.length) (v:=.int .i64 n) (by omega)).set (i:=0) (v:=.int .i64 ((ns.length:Int)+1));rw[show (((ns++[n]).length:Nat):Int)=(ns.length:Int)+1 by simp];exact this
   have kp:Kp2 (w.heap.size+1+1+1+1) (w.heap.size+1+1+1+1+1) W ((W'.setCell ⟨w.heap.size+1+1,ns.length,none⟩ (.int .i64 n)).setCell ⟨w.heap.size+1+1+1,0,none⟩ (.int .i64 ((ns.length:Int)+1))):=by
    exact X8 (X8 (zbB hb (by omega) (by omega) (by omega)) (by omega) (by omega) (by omega)) (by omega) (by omega) (by omega)
   have a8:=zf1 Z a1.size;have ak:=zH a1;have am:=zH kp;have an:=zH n0;have ao:=zH n1;have aq:=zH n2;have ar:=zH n3;have au:=zH a7;have av:=zH a8;clear j0 j1 j2 j3 hb hB J M m0 m1 m2 m3 C j hlen Z a1 kp n0 n1 n2 n3 a7 hy a8
   gi_wp2
   exact⟨ak.out,am.out,⟨⟨an.out,ao.out⟩,ns++[n],R.out,aq.out,ar.out⟩,au.out,av.out⟩
 case done =>
  rintro D ys W hD ab ⟨⟨⟨j0,j1⟩,ns,j,j2,j3⟩,hB,Z⟩ hK;rw[ab] at j;have U:ns.length=3:=by rw[zaM j,hN]
  obtain⟨a,b,c,rfl⟩:∃a b c,ns=[a,b,c]:=by
   match ns,U with
   |[a,b,c],_=>exact⟨a,b,c,rfl⟩
  have ag:=zH j;clear j ab;have d0:_=some (Value.int .i64 0):=j0.cell 0;have d1:_=some (Value.int .i64 0):=j0.cell 1;have d2:_=some (Value.int .i64 0):=j0.cell 2;have e0:=j0.frozen 0;have e1:=j0.frozen 1;have e2:=j0.frozen 2;have d3:_=some Value.nilIface:=j1.cell 0;have e3:=j1.frozen 0;have g0:_=some (Value.int .i64 a):=j2.cell 0;have g1:_=some (Value.int .i64 b):=j2.cell 1;have g2:_=some (Value.int .i64 c):=j2.cell 2;obtain⟨WF,u⟩:∃WF,(((W.setCell w (.int .i64 a)).setCell ⟨w.heap.size,1,none⟩ (.int .i64 b)).setCell ⟨w.heap.size,2,none⟩ (.int .i64 c)).setCell ⟨w.heap.size+1,0,none⟩ .nilIface=WF:=⟨_,rfl⟩;have a5:zB w WF:=by rw[<-u];exact(((hB.setCell (p:=w) zN _).setCell (p:=⟨w.heap.size,1,none⟩) zN _).setCell (p:=⟨w.heap.size,2,none⟩) zN _).setCell (p:=⟨w.heap.size+1,0,none⟩) (zrr _) _
  have a6:WF.heap[D]?=some (.deferred (some [])):=by rw[<-u];exact((((KeepsOthers.setCell _ _ _).trans (KeepsOthers.setCell _ _ _)).trans (KeepsOthers.setCell _ _ _)).trans (KeepsOthers.setCell _ _ _)).same D _ hK rfl
  have p0:Blk WF w.heap.size 102 (xK [a,b,c]):=by rw[<-u];exact(((j0.set (i:=0) (v:=.int .i64 a)).set (i:=1) (v:=.int .i64 b)).set (i:=2) (v:=.int .i64 c)).other (by omega)
  have p1:Blk WF (w.heap.size+1) 31 #[.nilIface]:=by rw[<-u];exact(((j1.other (by omega)).other (by omega)).other (by omega)).set (i:=0)
  have q0:=p0.put (l:=D) (o':=.deferred none) (by omega);have q1:=p1.put (l:=D) (o':=.deferred none) (by omega);have V:=zH q0;have ah:=zH q1;have ai:=zH a5;have a3:=zH a6;have aj:=zH u;clear j0 j1 j2 j3 hK a5 a6 p0 p1 q0 q1 hB u
  gi_wp2
  rw[aj.out];refine⟨by simp,.inl ⟨_,_,rfl,run_takeDeferred a3.out,?_⟩⟩;have r0:=V.out.cell 0;have r1:=V.out.cell 1;have r2:=V.out.cell 2;have r3:=ah.out.cell 0;refine⟨Qs (.ok [a,b,c]),?_,by rw[ag.out],ai.out.trans (belowK_b (w:=w) zN WF D _ _ (by omega) a3.out rfl rfl)⟩;simp[results,Tryz.f81,go_sem,r0,r1,r2,r3,Qs,xK]
 case stop =>
  rintro D c q W hD a0 ⟨⟨rfl,k,hk,j0,j1⟩,hB⟩ hK;obtain⟨a2,o⟩:=a0;have Y:=zee (r:=a2) hk;rw[o] at Y;have ad:=zH Y;clear Y hk o;have q0:=j0.put (l:=D) (o':=.deferred none) (by omega);have q1:=j1.put (l:=D) (o':=.deferred none) (by omega);have r0:=q0.cell 0;have r1:=q0.cell 1;have r2:=q0.cell 2;have r3:=q1.cell 0
  gi_wp2
  refine⟨by simp,.inl ⟨_,_,rfl,run_takeDeferred hK,?_⟩⟩;refine⟨Qs (.error k),?_,by rw[ad.out],hB.trans (belowK_b (w:=w) zN W D _ _ (by omega) hK rfl rfl)⟩;simp[results,Tryz.f81,go_sem,r0,r1,r2,r3,Qs]
end
