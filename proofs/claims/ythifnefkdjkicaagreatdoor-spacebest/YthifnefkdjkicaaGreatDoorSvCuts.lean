import Derived.Test.YthifnefkdjkicaaGreatDoorErErrs
import Derived.PlainAid
import Derived.Lib.AppendIntMem
namespace Go.Proofs.YthifnefkdjkicaaGreatDoor
set_option maxHeartbeats 4000000
set_option maxRecDepth 100000
section
open Go.RowKit Go.Extern.Stop Go.Stop Go.Extern
namespace Errs
theorem zdf(h:Value)(w:World):(Go.method 494 262 (.agg #[h]) "Kind").run Tryz.prog w=.ok (261,h) w:=by kernel_rfl
theorem zea(h:Value)(w:World):(Go.method 494 262 (.agg #[h]) "Elem").run Tryz.prog w=.ok (277,.agg #[h]) w:=by kernel_rfl
theorem zcj(h:Value)(w:World):(Go.method 494 262 (.agg #[h]) "Implements").run Tryz.prog w=.ok (278,.agg #[h]) w:=by kernel_rfl
theorem zcu(h:Value)(w:World):(Go.method 494 262 (.agg #[h]) "AssignableTo").run Tryz.prog w=.ok (275,.agg #[h]) w:=by kernel_rfl
theorem as_hit(n:Int)(t:Addr)(old:Value)(w:World)(hg:w.cell? ⟨3,0,none⟩=some (.iface 262 (.agg #[.pointer (some ⟨12,33,none⟩)])))(ht0:w.cell? t=some old)(hf0:w.frozen? t=false) :
  zC 78 #[.iface 42 (.int .i64 n),.iface 162 (.pointer (some t))] w fun ev w'=>ev=.returned (.bool true)/\w'=((((w.alloc (.cells #[.pointer (some t)] 162)).alloc (.cells #[.pointer (some ⟨12,162,none⟩),.pointer (some w.heap.size),.int .u64 150] 212)).alloc (.cells #[.pointer (some ⟨12,162,none⟩),.pointer (some w.heap.size),.int .u64 150] 212)).alloc (.cells #[n] 42)).setCell t (.int .i64 n):=by
 have h6:=@run_callFunc_extern Tryz.prog 115 _ (fun j=>ReflectliteValue.unpack (j.getD 0 (.tuple #[]))) Tryz.func115 (by kernel_rfl) (by kernel_rfl) (by kernel_rfl) (by kernel_rfl);have h7:=@run_callFunc_extern Tryz.prog 116 _ (ReflectliteValue.methodAny (ReflectliteValue.valueError "reflectlite.Value.Type" 0) (fun t _ _ _=>ReflectliteType.toType t)) Tryz.func116 (by kernel_rfl) (by kernel_rfl) (by kernel_rfl) (by kernel_rfl);have h8:=@run_callFunc_extern Tryz.prog 117 _ (ReflectliteValue.method (ReflectliteValue.valueError "reflectlite.Value.IsNil" 0) ReflectliteValue.isNil) Tryz.func117 (by kernel_rfl) (by kernel_rfl) (by kernel_rfl) (by kernel_rfl);have K:=@run_callFunc_extern Tryz.prog 261 _ (ReflectliteType.abiMethod fun t=>do pure (.int .u8 (<-Rtype.kind t))) Tryz.func261 (by kernel_rfl) (by kernel_rfl) (by kernel_rfl) (by kernel_rfl);have R:=@run_callFunc_extern Tryz.prog 277 _ (ReflectliteType.method ReflectliteType.elem) Tryz.func277 (by kernel_rfl) (by kernel_rfl) (by kernel_rfl) (by kernel_rfl);have U:=@run_callFunc_extern Tryz.prog 278 _ (ReflectliteType.relation "Implements" ReflectliteType.implements_) Tryz.func278 (by kernel_rfl) (by kernel_rfl) (by kernel_rfl) (by kernel_rfl);have y:=@run_callFunc_extern Tryz.prog 160 _ ReflectliteType.typeOf Tryz.func160 (by kernel_rfl) (by kernel_rfl) (by kernel_rfl) (by kernel_rfl);have M:=@run_callFunc_extern Tryz.prog 275 _ (ReflectliteType.relation "AssignableTo" ReflectliteType.assignableTo) Tryz.func275 (by kernel_rfl) (by kernel_rfl) (by kernel_rfl) (by kernel_rfl);have C:=@run_callFunc_extern Tryz.prog 161 _ (ReflectliteValue.method (ReflectliteValue.valueError "reflectlite.Value.Elem" 0) ReflectliteValue.elem) Tryz.func161 (by kernel_rfl) (by kernel_rfl) (by kernel_rfl) (by kernel_rfl);have J:=@run_callFunc_extern Tryz.prog 162 _ ReflectliteValue.set Tryz.func162 (by kernel_rfl) (by kernel_rfl) (by kernel_rfl) (by kernel_rfl);have tO:=zfP;have mA:=zcu;have q:=zeI;have a0:=zb2;have f6:=zeP;have f7:=zcN;have mK:=zdf;have mE:=zea;have mI:=zcj;have Z:=zc7;have Y:=zdD;have u:=zev;have X:=zfv;have n8:=zeL w.heap.size t ((w.alloc (.cells #[.pointer (some t)] 162)).alloc (.cells #[.pointer (some ⟨12,162,none⟩),.pointer (some w.heap.size),.int .u64 150] 212)) (by simp);have p:3<w.heap.size:=by
  rcases Nat.lt_or_ge 3 w.heap.size with h|h
  ·exact h
  ·simp[World.cell?,Array.getElem?_eq_none h] at hg
 have V:((w.alloc (.cells #[.pointer (some t)] 162)).alloc (.cells #[.pointer (some ⟨12,162,none⟩),.pointer (some w.heap.size),.int .u64 150] 212)).cell? ⟨3,0,none⟩=some (.iface 262 (.agg #[.pointer (some ⟨12,33,none⟩)])):=by
  rw[World.cell?_alloc_lt _ _ ⟨3,0,none⟩ (by simp only[zA0];omega),World.cell?_alloc_lt _ _ ⟨3,0,none⟩ p];exact hg
 have o:t.block<w.heap.size:=by
  rcases Nat.lt_or_ge t.block w.heap.size with h|h
  ·exact h
  ·simp[World.cell?,Array.getElem?_eq_none h] at ht0
 have el:=zcc w.heap.size t (((w.alloc (.cells #[.pointer (some t)] 162)).alloc (.cells #[.pointer (some ⟨12,162,none⟩),.pointer (some w.heap.size),.int .u64 150] 212)).alloc (.cells #[.pointer (some ⟨12,162,none⟩),.pointer (some w.heap.size),.int .u64 150] 212)) (by rw[World.cell?_alloc_lt _ _ w.heap.size (by simp;omega)];simp);have st:=zcl t ⟨w.heap.size+1+1+1,0,none⟩ n old ((((w.alloc (.cells #[.pointer (some t)] 162)).alloc (.cells #[.pointer (some ⟨12,162,none⟩),.pointer (some w.heap.size),.int .u64 150] 212)).alloc (.cells #[.pointer (some ⟨12,162,none⟩),.pointer (some w.heap.size),.int .u64 150] 212)).alloc (.cells #[n] 42))
  (by rw[World.cell?_alloc_at _ _ _ _ (by simp)];rfl)
  (by rw[World.cell?_alloc_lt _ _ t (by simp;omega),World.cell?_alloc_lt _ _ t (by simp;omega),World.cell?_alloc_lt _ _ t (by simp;omega),World.cell?_alloc_lt _ _ t o];exact ht0)
  (by rw[World.frozen?_alloc_old _ _ t (by simp;omega),World.frozen?_alloc_old _ _ t (by simp;omega),World.frozen?_alloc_old _ _ t (by simp;omega),World.frozen?_alloc_old _ _ t (Nat.ne_of_lt o)];exact hf0)
 go_enter Tryz.func78,Tryz.ntmps78;go_wp2;refine wp_loop_rounds 1 ?_;rw[rounds_succ];go_wp2;go_ret;exact⟨rfl,rfl⟩
end Errs
end
section
open Go.RowKit Go.Extern.Stop Go.Stop Go.Extern
def yU(w:World):Prop:=w.cell? ⟨3,0,none⟩=some (.iface 262 (.agg #[.pointer (some ⟨12,33,none⟩)]))
theorem yU.lt{w:World}(h:yU w):3<w.heap.size:=by
 rcases Nat.lt_or_ge 3 w.heap.size with h1|h1
 ·exact h1
 ·unfold yU at h;simp[World.cell?,Array.getElem?_eq_none h1] at h
theorem yU.below{w w':World}(h:yU w)(hb:zB w w'):yU w':=(hb.cell (p:=⟨3,0,none⟩) h.lt).trans h
theorem JT(n:Int)(w:World)(hg:yU w) :
  zR 40 #[.iface 42 (.int .i64 n)] w (.int .i64 n):=by
 have H:=Errs.as_hit n w.heap.size (.int .i64 0) (w.alloc (.cells #[(0:Int)] 42)) (hg.below (zF.alloc zN _)) (X7 _ _ _) (za6 _ _ _);go_enter Tryz.func40,Tryz.ntmps40;go_wp2_with fail;refine H.mono ?_;rintro e w' ⟨rfl,hw⟩;have hc:w'.cell? w.heap.size=some (.int .i64 n):=by
  rw[hw];refine World.cell?_setCell_same' _ _ _ ?_;rw[World.cell?_alloc_lt _ _ w.heap.size (by simp;omega),World.cell?_alloc_lt _ _ w.heap.size (by simp;omega),World.cell?_alloc_lt _ _ w.heap.size (by simp;omega),World.cell?_alloc_lt _ _ w.heap.size (by simp),X7];rfl
 have hb:zB w w':=by
  rw[hw];exact(((((zF.alloc zN _).alloc (by simp) _).alloc (by simp;omega) _).alloc (by simp;omega) _).alloc (by simp;omega) _).setCell zN _
 clear H hw;go_wp2;go_ret;exact⟨rfl,hb⟩
theorem zn7(w:World):zC 40 #[.nilIface] w fun e w'=>e=.returned (.int .i64 0)/\w=w':=by
 go_enter Tryz.func40,Tryz.ntmps40;go_wp2;go_ret;exact⟨rfl,rfl⟩
end
namespace Sv
def ALL:Nat:=1000000000
abbrev zf:=Nat × Nat
def mem(l:List zf)(n:Nat):Prop:=∃s∈l,s.1<=n/\n<s.2
theorem Ql(n:Nat):¬mem [] n:=fun⟨_,h,_⟩=>by cases h
theorem mem_cons{s:zf}{l:List zf}{n:Nat}:mem (s :: l) n↔(s.1<=n/\n<s.2)\/mem l n:=by
 unfold mem;constructor
 ·rintro⟨t,ht,h⟩;rcases List.mem_cons.1 ht with rfl|ht
  ·exact Or.inl h
  ·exact Or.inr ⟨t,ht,h⟩
 ·rintro (h|⟨t,ht,h⟩)
  ·exact⟨s,List.mem_cons_self,h⟩
  ·exact⟨t,List.mem_cons_of_mem _ ht,h⟩
def qR(lo:Nat):List zf->Prop
 |[]=>True
 |s :: r=>lo<=s.1/\s.1<s.2/\s.2<=ALL/\qR (s.2+1) r
theorem qR.mono{lo hi:Nat}{l:List zf}(h:qR hi l)(hh:lo<=hi):qR lo l:=by
 cases l with
 |nil=>trivial
 |cons s r=>exact⟨Nat.le_trans hh h.1,h.2⟩
theorem qR.ge{lo n:Nat}{l:List zf}(h:qR lo l)(hm:mem l n):lo<=n:=by
 induction l generalizing lo with
 |nil=>exact absurd hm (Ql n)
 |cons s r ih =>
  rcases mem_cons.1 hm with ⟨h1,_⟩|hm
  ·exact Nat.le_trans h.1 h1
  ·have:=ih h.2.2.2 hm;have:=h.1;have:=h.2.1;omega
theorem qR.lt{lo n:Nat}{l:List zf}(h:qR lo l)(hm:mem l n):n<ALL:=by
 induction l generalizing lo with
 |nil=>exact absurd hm (Ql n)
 |cons s r ih =>
  rcases mem_cons.1 hm with ⟨_,h1⟩|hm
  ·exact Nat.lt_of_lt_of_le h1 h.2.2.1
  ·exact ih h.2.2.2 hm
def xk(e:Nat):List zf->List zf
 |[]=>if e<ALL then [(e,ALL)] else []
 |s :: r=>if e<s.1 then (e,s.1) :: xk s.2 r else xk s.2 r
theorem zkZ:∀{l:List zf} {e:Nat},qR e l->qR e (xk e l):=by
 intro l
 induction l with
 |nil =>
  intro e _;unfold xk;split
  ·exact⟨Nat.le_refl _,by assumption,Nat.le_refl _,trivial⟩
  ·trivial
 |cons s r ih =>
  intro e h;obtain⟨h1,h2,h3,h4⟩:=h;have hr:=ih (h4.mono (Nat.le_succ _));unfold xk;split
  ·exact⟨Nat.le_refl _,by assumption,by simp only;omega,hr.mono (by simp only;omega)⟩
  ·exact hr.mono (by omega)
theorem zh1:∀{l:List zf} {e n:Nat},qR e l->(mem (xk e l) n↔(e<=n/\n<ALL/\¬mem l n)):=by
 intro l
 induction l with
 |nil =>
  intro e n _;unfold xk;split
  ·rw[mem_cons];simp only[Ql,or_false,not_false_eq_true,and_true]
  ·simp only[Ql,not_false_eq_true,and_true,false_iff];omega
 |cons s r ih =>
  intro e n h;obtain⟨h1,h2,h3,h4⟩:=h;have hr:=ih (n:=n) (h4.mono (Nat.le_succ s.2));have hg:mem r n->s.2+1<=n:=h4.ge;unfold xk;rw[mem_cons (s:=s)];split
  ·rw[mem_cons,hr];simp only
   by_cases hm:mem r n
   ·have:=hg hm;simp[hm];omega
   ·simp only[hm,not_false_eq_true,and_true,or_false];omega
  ·rw[hr]
   by_cases hm:mem r n
   ·simp[hm]
   ·simp only[hm,not_false_eq_true,and_true,or_false];omega
def yp:List zf->List zf->List zf
 |[],_=>[]
 |_ :: _,[]=>[]
 |s :: r,t :: q =>(if max s.1 t.1<min s.2 t.2 then [(max s.1 t.1,min s.2 t.2)] else [])++(if s.2<t.2 then yp r (t :: q) else yp (s :: r) q)
termination_by l m=>l.length+m.length
theorem zht(l:List zf):yp l []=[]:=by cases l<;>simp[yp]
theorem zeZ{lo:Nat}{c:Prop}[Decidable c]{s:zf}{r:List zf}(h1:c->lo<=s.1/\s.1<s.2/\s.2<=ALL/\qR (s.2+1) r)(h2:¬c->qR lo r):qR lo ((if c then [s] else [])++r):=by
 by_cases h:c
 ·rw[zA2 h];exact h1 h
 ·rw[zA1 h];exact h2 h
theorem ziS{n:Nat}{c:Prop}[Decidable c]{s:zf}{r:List zf}:mem ((if c then [s] else [])++r) n↔(c/\s.1<=n/\n<s.2)\/mem r n:=by
 by_cases h:c
 ·rw[zA2 h];simp only[List.cons_append,List.nil_append,h,true_and];exact mem_cons
 ·rw[zA1 h];simp[h]
theorem zpS:∀(k:Nat) {l m:List zf} {lo lo':Nat},l.length+m.length<=k->qR lo l->qR lo' m->qR (max lo lo') (yp l m):=by
 intro k
 induction k with
 |zero =>intro l m lo lo' hk _ _;obtain rfl:l=[]:=List.length_eq_zero_iff.1 (by omega);simp only[yp];trivial
 |succ k ih =>
  intro l m lo lo' hk hl hm;cases l with
  |nil=>simp only[yp];trivial
  |cons s r =>
   cases m with
   |nil=>simp only[yp];trivial
   |cons t q =>
    rw[yp];simp only[List.length_cons] at hk;have hl':=hl;have hm':=hm;obtain⟨h1,h2,h3,h4⟩:=hl;obtain⟨g1,g2,g3,g4⟩:=hm
    by_cases hlt:s.2<t.2
    ·rw[zA2 hlt];have:=ih (l:=r) (m:=t :: q) (lo:=s.2+1) (lo':=t.1) (by simp only[List.length_cons];omega) h4 ⟨Nat.le_refl _,g2,g3,g4⟩;refine zeZ (fun hc=>⟨by simp only;omega,hc,by simp only;omega,this.mono (by simp only;omega)⟩) (fun hc=>this.mono (by omega))
    ·rw[zA1 hlt];have:=ih (l:=s :: r) (m:=q) (lo:=s.1) (lo':=t.2+1) (by simp only[List.length_cons];omega) ⟨Nat.le_refl _,h2,h3,h4⟩ g4;refine zeZ (fun hc=>⟨by simp only;omega,hc,by simp only;omega,this.mono (by simp only;omega)⟩) (fun hc=>this.mono (by omega))
theorem zmu:∀(k:Nat) {l m:List zf} {lo lo' n:Nat},l.length+m.length<=k->qR lo l->qR lo' m->(mem (yp l m) n↔mem l n/\mem m n):=by
 intro k
 induction k with
 |zero =>intro l m lo lo' n hk _ _;obtain rfl:l=[]:=List.length_eq_zero_iff.1 (by omega);simp only[yp,Ql,false_and]
 |succ k ih =>
  intro l m lo lo' n hk hl hm;cases l with
  |nil=>simp only[yp,Ql,false_and]
  |cons s r =>
   cases m with
   |nil=>simp only[yp,Ql,and_false]
   |cons t q =>
    rw[yp,ziS];simp only[List.length_cons] at hk;obtain⟨h1,h2,h3,h4⟩:=hl;obtain⟨g1,g2,g3,g4⟩:=hm;have hr:mem r n->s.2+1<=n:=h4.ge;have hq:mem q n->t.2+1<=n:=g4.ge
    by_cases hlt:s.2<t.2
    ·rw[zA2 hlt,ih (l:=r) (m:=t :: q) (lo:=s.2+1) (lo':=t.1) (by simp only[List.length_cons];omega) h4 ⟨Nat.le_refl _,g2,g3,g4⟩,mem_cons,mem_cons]
     by_cases a:mem r n<;>by_cases b:mem q n<;>simp only[a,b,or_true,or_false,and_true,true_and,false_and]<;>(try have:=hr a)<;>(try have:=hq b)<;>omega
    ·rw[zA1 hlt,ih (l:=s :: r) (m:=q) (lo:=s.1) (lo':=t.2+1) (by simp only[List.length_cons];omega) ⟨Nat.le_refl _,h2,h3,h4⟩ g4,mem_cons,mem_cons]
     by_cases a:mem r n<;>by_cases b:mem q n<;>simp only[a,b,or_true,or_false,and_true,and_false,true_and]<;>(try have:=hr a)<;>(try have:=hq b)<;>omega
abbrev Rg(l:List zf):Prop:=qR 0 l
def nt(l:List zf):List zf:=xk 0 l
def nd(l m:List zf):List zf:=yp l m
def orr(l m:List zf):List zf:=nt (nd (nt l) (nt m))
def zh(a b:Nat):List zf:=if a<b then [(a,b)] else []
def zn:List zf:=[(0,ALL)]
theorem XG:Rg zn:=⟨Nat.le_refl _,by decide,Nat.le_refl _,trivial⟩
theorem Ze:Rg []:=trivial
theorem Xu{a b:Nat}(h:b<=ALL):Rg (zh a b):=by
 unfold zh;split
 ·exact⟨Nat.zero_le _,by assumption,h,trivial⟩
 ·trivial
theorem xK{l:List zf}(h:Rg l):Rg (nt l):=zkZ h
theorem Qg{l m:List zf}(h:Rg l)(h':Rg m):Rg (nd l m):=(zpS _ zN h h').mono (Nat.zero_le _)
theorem X0{l m:List zf}(h:Rg l)(h':Rg m):Rg (orr l m):=xK (Qg (xK h) (xK h'))
theorem zoX{n:Nat}:mem zn n↔n<ALL:=by unfold zn;rw[mem_cons];simp[Ql]
theorem KQ{l:List zf}{n:Nat}(h:Rg l):mem (nt l) n↔n<ALL/\¬mem l n:=by
 unfold nt;rw[zh1 h];simp
theorem zcr{l m:List zf}{n:Nat}(h:Rg l)(h':Rg m):mem (nd l m) n↔mem l n/\mem m n:=zmu _ zN h h'
theorem znt{l m:List zf}{n:Nat}(h:Rg l)(h':Rg m):mem (orr l m) n↔mem l n\/mem m n:=by
 unfold orr;rw[KQ (Qg (xK h) (xK h')),zcr (xK h) (xK h'),KQ h,KQ h'];have h1:mem l n->n<ALL:=h.lt;have h2:mem m n->n<ALL:=h'.lt
 by_cases a:mem l n<;>by_cases b:mem m n<;>by_cases c:n<ALL<;>simp_all
end Sv
section
open Go.RowKit Sv
def qV(l:List zf):List Value:=l.flatMap fun s=>[.int .i64 s.1,.int .i64 s.2]
def sp(l:List zf)(i:Nat):zf:=l.getD i (0,0)
theorem QT(l:List zf)(i:Nat)(h:i<l.length):sp l i=l[i]:=by unfold sp;simp[List.getD_eq_getElem?_getD,List.getElem?_eq_getElem h]
theorem KN(s:zf)(l:List zf)(i:Nat):sp (s :: l) (i+1)=sp l i:=by simp[sp]
theorem Jb(a b:List zf):qV (a++b)=qV a++qV b:=by simp[qV]
theorem zep:∀(l:List zf) (i:Nat),i<l.length->(qV l)[i*2]?=some (.int .i64 ((sp l i).1:Int))/\(qV l)[i*2+1]?=some (.int .i64 ((sp l i).2:Int))
 |[],i,h=>by simp at h
 |n :: l,0,_=>by simp[qV,sp]
 |n :: l,i+1,h=>by
  have ih:=zep l i (by simpa using h);rw[KN];have e2:∀j,(qV (n :: l))[j+2]?=(qV l)[j]?:=fun j=>by
   show ([Value.int .i64 n.1,.int .i64 n.2]++qV l)[j+2]?=_;rw[List.getElem?_append_right (by simp)];simp
  rw[show (i+1)*2=i*2+2 by omega,show i*2+2+1=(i*2+1)+2 by omega,e2,e2];exact ih
structure zk(w:World)(v:Value)(l:List zf):Prop where
 form:∃a cap,v=.slice a l.length cap
 cells:∀i,i<l.length->∃g cap,v=.slice (some ⟨g,0,none⟩) l.length cap/\g<w.heap.size/\w.cell? ⟨g,i*2,none⟩=some (.int .i64 ((sp l i).1:Int))/\w.cell? ⟨g,i*2+1,none⟩=some (.int .i64 ((sp l i).2:Int))
theorem Jg(w:World):zk w (.slice none 0 0) []:=⟨⟨none,0,rfl⟩,fun i h=>by simp at h⟩
theorem zk.below{B:Nat}{w w':World}{v:Value}{l:List zf}(h:zk w v l)(hb:Below B w w')(hB:w.heap.size<=B):zk w' v l :=
 ⟨h.form,fun i hi=>by
  obtain⟨g,j,e,hg,c0,c1⟩:=h.cells i hi;exact ⟨g,j,e,Nat.lt_of_lt_of_le hg hb.size,(hb.cell (p:=⟨g,i * 2,none⟩) (by show g<B;omega)).trans c0,(hb.cell (p:=⟨g,i * 2 + 1,none⟩) (by show g<B;omega)).trans c1⟩⟩
theorem zk.drew{w:World}{v:Value}{l:List zf}(h:zk w v l):zk w.drew v l:=⟨h.form,h.cells⟩
theorem Xb{B:Nat}{w:World}{v:Value}{l:List zf}(h:w.ownsRow B 232 2 v l.length (qV l)):zk w v l:=by
 rcases h.2 with ⟨e,e0⟩|⟨g,p,u,e,hB,hg,hn,hm,y,o⟩
 ·exact⟨⟨none,0,by rw[e,e0]⟩,fun i hi=>by omega⟩
 ·refine⟨⟨_,_,e⟩,fun i hi=>?_⟩;have q:g<w.heap.size:=(h.lt g (by rw[e];rfl)).2;obtain⟨c0,c1⟩:=zep l i hi;have cell:∀j,j<l.length*2->w.cell? ⟨g,j,none⟩=(qV l)[j]?:=fun j hj=>by
   rw[<-o,List.getElem?_take,zA2 (by omega)];simp[World.cell?,hg]
  exact⟨g,p,e,q,(cell _ (by omega)).trans c0,(cell _ (by omega)).trans c1⟩
theorem ziO:∀{l:List zf} {lo:Nat},qR lo l->lo<=ALL+1->2*l.length+lo<=ALL+1:=by
 intro l
 induction l with
 |nil=>intro lo _ h;simpa using h
 |cons s r ih =>intro lo h j;obtain⟨h1,h2,h3,h4⟩:=h;have:=ih h4 (by omega);simp only[List.length_cons];omega
theorem Yf{l:List zf}(h:Rg l):l.length<=500000000:=by
 have:=ziO h (Nat.zero_le _);unfold ALL at this;omega
theorem zeG:(Tryz.prog.info? 232).map (fun i=>(i.zero,i.size,i.bytes))=some (some (.agg #[(0:Int),(0:Int)]),2,16):=by kernel_rfl
theorem zbE{B n:Nat}{w:World}{v:Value}{t:TypeId}{cs:List Value}(h:w.ownsRow B t 2 v n cs):∃a c,v=.slice a n c:=by
 rcases h.2 with ⟨e,e0⟩|⟨g,j,o,e,-⟩
 ·exact⟨none,0,by rw[e,e0]⟩
 ·exact⟨_,_,e⟩
theorem KS(w:World)(A B:Value)(t:TypeId):∀(j:Nat) (u:Value),[A,B][j]?=some u->(w.alloc (.cells #[A,B] t)).cell? (Addr.add w.heap.size j)=some u:=by
 intro j u h
 match j,h with
 |0,h=>simp at h;subst h;simp[Addr.add]
 |1,h=>simp at h;subst h;simp[Addr.add]
 |j+2,h=>simp at h
theorem Z3{w w':World}{row:Option Nat}(hg:w.grownBy w' row){b i:Nat}(hb:b<w.heap.size)(hne:some b≠row):w'.cell? ⟨b,i,none⟩=w.cell? ⟨b,i,none⟩:=by
 unfold World.cell?;rw[hg.block b hb hne]
theorem Xt{B n:Nat}{w:World}{v:Value}{t:TypeId}{cs:List Value}(h:w.ownsRow B t 2 v n cs){b:Nat}(hb:w.heap.size<=b):some b≠v.ownBlock:=fun e=>by
 have:=(h.lt b e.symm).2;omega
theorem KE{B n b:Nat}{w:World}{v x:Value}{t:TypeId}{cs:List Value}(h:w.ownsRow B t 2 v n cs)(hb:b<B):(w.setCell b x).ownsRow B t 2 v n cs:=by
 refine⟨h.1,?_⟩;rcases h.2 with h1|⟨g,j,o,h1,h2,h3,h4⟩
 ·exact .inl h1
 ·exact .inr ⟨g,j,o,h1,h2,(Below.heap_setCell _ _ _ g (by show g≠b;omega)).trans h3,h4⟩
theorem Ym(w:World)(A:Value)(t:TypeId):(w.alloc (.cells #[A] t)).cell? w.heap.size=some A:=by simp
theorem KZ(w:World)(A B:Value)(t:TypeId):(w.alloc (.cells #[A,B] t)).cell? w.heap.size=some A/\(w.alloc (.cells #[A,B] t)).cell? ⟨w.heap.size,1,none⟩=some B:=⟨by simp,by simp⟩
theorem zdF(w:World)(A:Value)(t:TypeId):(w.alloc (.cells #[A] t)).frozen? w.heap.size=false:=by simp
structure ze3(w W:World)(A B C:Value):Prop where
 below:zB w W
 size:W.heap.size=w.heap.size+3
 c0:W.cell? w.heap.size=some A
 c1:W.cell? ⟨w.heap.size+1,0,none⟩=some B
 c2:W.cell? ⟨w.heap.size+1+1,0,none⟩=some C
 f2:W.frozen? ⟨w.heap.size+1+1,0,none⟩=false
theorem zaM(w:World)(A B C:Value)(t t' t'':TypeId):ze3 w (((w.alloc (.cells #[A] t)).alloc (.cells #[B] t')).alloc (.cells #[C] t'')) A B C:=by
 have s1:(w.alloc (.cells #[A] t)).heap.size=w.heap.size+1:=zA0 _ _;have h1:=Ym w A t;have h2:=Ym (w.alloc (.cells #[A] t)) B t';have h3:=Ym ((w.alloc (.cells #[A] t)).alloc (.cells #[B] t')) C t'';have f3:=zdF ((w.alloc (.cells #[A] t)).alloc (.cells #[B] t')) C t'';have s2:((w.alloc (.cells #[A] t)).alloc (.cells #[B] t')).heap.size=w.heap.size+1+1:=by rw[zA0,s1]
 have b1:zB w (w.alloc (.cells #[A] t)):=(Below.refl _ w).alloc zN _;have b2:Below (w.heap.size+1) (w.alloc (.cells #[A] t)) ((w.alloc (.cells #[A] t)).alloc (.cells #[B] t')):=zF.alloc (by omega) _;have b3:Below (w.heap.size+1+1) ((w.alloc (.cells #[A] t)).alloc (.cells #[B] t')) (((w.alloc (.cells #[A] t)).alloc (.cells #[B] t')).alloc (.cells #[C] t'')):=zF.alloc (by omega) _;rw[s1] at h2;rw[s2] at h3 f3;refine⟨b1.trans ((b2.mono (by omega)).trans (b3.mono (by omega))),by rw[zA0,s2],?_,?_,h3,f3⟩
 ·exact(b3.cell (p:=w.heap.size) (by show w.heap.size<_;omega)).trans ((b2.cell (p:=w.heap.size) (by show w.heap.size<_;omega)).trans h1)
 ·exact(b3.cell (p:=⟨w.heap.size+1,0,none⟩) (by show w.heap.size+1<_;omega)).trans h2
structure XC(w W:World)(bs bt:Nat)(A T C D:Value):Prop where
 below:zB w W
 hs:w.heap.size<=bs
 ht:w.heap.size<=bt
 ls:bs<W.heap.size
 lt:bt<W.heap.size
 s0:W.cell? bs=some A
 s1:W.cell? ⟨bs,1,none⟩=some T
 t0:W.cell? bt=some C
 t1:W.cell? ⟨bt,1,none⟩=some D
theorem zd0(w:World)(A T C D:Value)(t t':TypeId):XC w ((w.alloc (.cells #[A,T] t)).alloc (.cells #[C,D] t')).drew w.heap.size (w.heap.size+1) A T C D:=by
 have s1:(w.alloc (.cells #[A,T] t)).heap.size=w.heap.size+1:=zA0 _ _;have s2:((w.alloc (.cells #[A,T] t)).alloc (.cells #[C,D] t')).heap.size=w.heap.size+1+1:=by rw[zA0,s1]
 have b1:zB w (w.alloc (.cells #[A,T] t)):=(Below.refl _ w).alloc zN _;have b2:Below (w.heap.size+1) (w.alloc (.cells #[A,T] t)) ((w.alloc (.cells #[A,T] t)).alloc (.cells #[C,D] t')).drew:=(zF.alloc (by omega) _).drew;have h1:=KZ w A T t;have h2:=KZ (w.alloc (.cells #[A,T] t)) C D t';rw[s1] at h2;have ls:w.heap.size<((w.alloc (.cells #[A,T] t)).alloc (.cells #[C,D] t')).drew.heap.size:=by show w.heap.size<((w.alloc (.cells #[A,T] t)).alloc (.cells #[C,D] t')).heap.size;omega
 have lt:w.heap.size+1<((w.alloc (.cells #[A,T] t)).alloc (.cells #[C,D] t')).drew.heap.size:=by show w.heap.size+1<((w.alloc (.cells #[A,T] t)).alloc (.cells #[C,D] t')).heap.size;omega
 exact⟨b1.trans (b2.mono (by omega)),Nat.le_refl _,by omega,ls,lt,(b2.cell (p:=w.heap.size) (by show w.heap.size<_;omega)).trans h1.1,(b2.cell (p:=⟨w.heap.size,1,none⟩) (by show w.heap.size<_;omega)).trans h1.2,h2.1,h2.2⟩
theorem ziG(w:World)(A T C D:Value)(t t':TypeId):XC w ((w.alloc (.cells #[C,D] t')).alloc (.cells #[A,T] t)).drew (w.heap.size+1) w.heap.size A T C D:=by
 have h:=zd0 w C D A T t' t;exact⟨h.below,h.ht,h.hs,h.lt,h.ls,h.t0,h.t1,h.s0,h.s1⟩
theorem XC.drewN{w W:World}{bs bt:Nat}{A T C D:Value}(h:XC w W bs bt A T C D)(n:Nat):XC w (W.drewN n) bs bt A T C D:=by
 induction n with
 |zero=>exact h
 |succ n ih=>exact⟨⟨ih.below.os,ih.below.tape,ih.below.output,ih.below.size,ih.below.block⟩,ih.hs,ih.ht,ih.ls,ih.lt,ih.s0,ih.s1,ih.t0,ih.t1⟩
theorem zd2{B n b:Nat}{w w':World}{v:Value}{t:TypeId}{cs:List Value}(h:w.ownsRow B t 2 v n cs)(hb:Below b w w')(hB:w.heap.size<=b):w'.ownsRow B t 2 v n cs:=by
 refine⟨h.1,?_⟩;rcases h.2 with h1|⟨g,j,o,h1,h2,h3,h4⟩
 ·exact .inl h1
 ·exact .inr ⟨g,j,o,h1,h2,(hb.block g (by have:=(h.lt g (by rw[h1];rfl)).2;omega)).trans h3,h4⟩
def Yd(w:World)(l:List zf)(e:Ending)(w':World):Prop:=∃v',e=.returned (.agg #[v'])/\zk w' v' l/\(∀g,v'.ownBlock=some g->w.heap.size<=g)/\zB w w'
theorem zk.set{w:World}{v x:Value}{l:List zf}{b:Nat}(h:zk w v l)(hn:v.ownBlock≠some b):zk (w.setCell b x) v l :=
 ⟨h.form,fun i hi=>by
  obtain⟨g,j,e,hg,c0,c1⟩:=h.cells i hi;have o:g≠b:=fun e'=>hn (by rw[e,e'];rfl);have hh:=Below.heap_setCell w b x g o;refine⟨g,j,e,Nat.lt_of_lt_of_le hg ((Below.refl 0 w).setCell (p:=b) (Nat.zero_le _) x).size,?_,?_⟩
  ·rw[<-c0];unfold World.cell?;rw[hh]
  ·rw [<- c1];unfold World.cell?;rw [hh]⟩
end
section
open Go.RowKit Go.Shelf Go.Sort Sv
structure Lb(w:World):Prop where
 ml:∃n,w.cell? ⟨4,0,none⟩=some (.int .i64 n)
 es:∃ev,w.cell? ⟨7,0,none⟩=some ev/\(ev=.nilIface\/∃te pe,ev=.iface te pe)
 er:∃ev,w.cell? ⟨8,0,none⟩=some ev/\(ev=.nilIface\/∃te pe,ev=.iface te pe)
 tab:Lib.TabIs Tryz.prog w "internal/strconv.uint64pow10" .u64 Lib.pow10Tab
 glob:yU w
 big:12<=w.heap.size
theorem Lb.below{w w':World}(h:Lb w)(hb:zB w w'):Lb w':=by
 have j:=h.big;obtain⟨n,h1⟩:=h.ml;obtain⟨e3,h3,o⟩:=h.es;obtain⟨e4,h4,q⟩:=h.er;exact⟨⟨n,(hb.cell (p:=⟨4,0,none⟩) (by show 4<_;omega)).trans h1⟩,⟨e3,(hb.cell (p:=⟨7,0,none⟩) (by show 7<_;omega)).trans h3,o⟩,⟨e4,(hb.cell (p:=⟨8,0,none⟩) (by show 8<_;omega)).trans h4,q⟩,Lib.tabBelow_of_tabIs h.tab w' hb,h.glob.below hb,Nat.le_trans j hb.size⟩
def yg(l:List UInt8):Except Int Nat :=
 match Lib.parseIntB 64 l with
 |.ok v=>if v<0\/Lib.itoa v≠l then .error 3 else if 999<v then .error 2 else .ok v.toNat
 |_=>.error 3
def zd3:Except Int Nat->Value
 |.ok n=>.tuple #[n,.nilIface]
 |.error k=>.tuple #[(0:Int),.iface 42 (.int .i64 k)]
theorem zb7(B:Nat)(w:World)(k:Nat)(os:Array Obj)(h:B<=w.heap.size):Below B w (grow (w.drewN k) os):=Lib.below_grow _ w h k os
theorem zeg(w:World)(t:ByteArray):zB w (Lib.bytesWorld w 5 t):=by
 have h:=((Below.refl w.heap.size w).drew).alloc zN (.cells (Lib.bytesCells w 5 t) 5);refine⟨h.os,h.tape,h.output,?_,fun k hk=>?_⟩
 ·exact Nat.le_trans h.size (by simp[Lib.bytesWorld,World.freeze])
 ·rw[<-h.block k hk];simp only[Lib.bytesWorld,World.freeze];rw[zA1 (by decide),Array.getElem?_modify,zA1 (by omega)]
theorem zcX{l:List UInt8}{v:Int}(h:Lib.parseIntB 64 l=.ok v):-9223372036854775808<=v/\v<=9223372036854775807:=by
 unfold Lib.parseIntB at h;split at h
 ·cases h
 ·simp only at h;split at h
  ·cases h
  ·cases h
  ·split at h
   ·cases h
   ·split at h
    ·cases h
    ·cases h;split<;>simp_all<;>omega
theorem zfe(s:ByteArray)(w:World)(hs:s.size<=100000)(hw:Lb w)(h:∀v,Lib.parseIntB 64 s.data.toList≠.ok v) :
  zR 112 #[s] w (.tuple #[(0:Int),.iface 42 (.int .i64 3)]):=by
 have H:Hid (zC 148 #[s,(10:Int),(64:Int)] w fun e w'=>∃N x,e=.returned (.tuple #[.int .i64 x,.iface 331 (.pointer (some ⟨N,0,none⟩))])/\zB w w'):=by
  cases hp:Lib.parseIntB 64 s.data.toList with
  |ok v=>exact absurd hp (h v)
  |«syntax» =>obtain⟨ev,h3,j⟩:=hw.es;exact(Tryz.strconv_ParseInt_10_at64_syntax s (by omega) hp ev w h3 j).mono fun e w' ⟨N,he,_,_,hb⟩=>⟨N,_,he,hb⟩
  |range =>obtain⟨ev,h3,j⟩:=hw.er;exact(Tryz.strconv_ParseInt_10_at64_range s (by omega) hp ev w h3 j).mono fun e w' ⟨N,he,_,_,hb⟩=>⟨N,_,he,hb⟩
 clear h hw;go_enter Tryz.func112,Tryz.ntmps112;go_wp2_with fail;refine H.out.mono ?_;rintro e w1 ⟨N,x,rfl,hb⟩;have HB:=zH hb;clear hb H;go_wp2;go_ret2;exact⟨rfl,HB.out⟩
theorem zmA(s:ByteArray)(w:World)(hs:s.size<=100000)(hw:Lb w)(v:Int)(h:Lib.parseIntB 64 s.data.toList=.ok v) :
  zR 112 #[s] w (zd3 (if v<0\/Lib.itoa v≠s.data.toList then .error 3 else if 999<v then .error 2 else .ok v.toNat)):=by
 obtain⟨r0,r1⟩:=zcX h;have H:Hid (zR 148 #[s,(10:Int),(64:Int)] w (.tuple #[v,.nilIface])):=(Tryz.strconv_ParseInt_10_at64_ok s (by omega) v h w).mono fun e w' ⟨he,p⟩=>by
  refine⟨he,?_⟩;rcases p with rfl|⟨t,rfl⟩
  ·exact Below.refl _ _
  ·exact zeg w t
 have HF:Hid (∀W,zB w W->zR 149 #[v,(10:Int)] W (.string ⟨(Lib.itoa v).toArray⟩)):=fun W hb=>(Tryz.strconv_FormatInt_10 v r0 r1 W (hw.below hb).tab).mono fun e w' ⟨he,k,os,p⟩=>⟨he,p▸zb7 _ W k os zN⟩;clear h hw
 by_cases hneg:v<0
 ·rw[zA2 (Or.inl hneg)];go_enter Tryz.func112,Tryz.ntmps112;go_wp2_with fail;refine H.out.mono ?_;rintro e w1 ⟨rfl,hb⟩;have HB:=zH hb;clear hb H;go_wp2;go_ret2;exact⟨rfl,HB.out⟩
 ·generalize Lib.itoa v=l at *
  by_cases hl:l=s.data.toList
  ·have q:(l==s.toList)=true:=by rw[ByteArray.toList_eq,hl];simp
   rw[zA1 (by rintro (h|h);exact hneg h;exact h hl)];clear hl
   by_cases hbig:999<v
   ·rw[zA2 hbig];go_enter Tryz.func112,Tryz.ntmps112;go_wp2_with fail;refine H.out.mono ?_;rintro e w1 ⟨rfl,hb⟩;have H2:=zH (HF.out _ hb);have HB:=zH hb;clear hb H HF;go_wp2_with fail;refine H2.out.mono ?_;rintro e w2 ⟨rfl,j⟩;have o:Hid (zB w w2):=zT HB.out j;clear j H2 HB;go_wp2;go_ret2;exact⟨rfl,o.out⟩
   ·rw[zA1 hbig];have hv:((v.toNat:Nat):Int)=v:=by omega
    go_enter Tryz.func112,Tryz.ntmps112;go_wp2_with fail;refine H.out.mono ?_;rintro e w1 ⟨rfl,hb⟩;have H2:=zH (HF.out _ hb);have HB:=zH hb;have HV:=zH hv;clear hb H HF hv;go_wp2_with fail;refine H2.out.mono ?_;rintro e w2 ⟨rfl,j⟩;have o:Hid (zB w w2):=zT HB.out j;clear j H2 HB;go_wp2;go_ret2;exact⟨(show Ending.returned (.tuple #[v,.nilIface])=.returned (.tuple #[.int .i64 ((v.toNat:Nat):Int),.nilIface]) by rw[HV.out]),o.out⟩
  ·have q:(l==s.toList)=false:=by rw[ByteArray.toList_eq];simpa using hl
   rw[zA2 (Or.inr hl)];clear hl;go_enter Tryz.func112,Tryz.ntmps112;go_wp2_with fail;refine H.out.mono ?_;rintro e w1 ⟨rfl,hb⟩;have H2:=zH (HF.out _ hb);have HB:=zH hb;clear hb H HF;go_wp2_with fail;refine H2.out.mono ?_;rintro e w2 ⟨rfl,j⟩;have o:Hid (zB w w2):=zT HB.out j;clear j H2 HB;go_wp2;go_ret2;exact⟨rfl,o.out⟩
theorem zkD(s:ByteArray)(w:World)(hs:s.size<=100000)(hw:Lb w) :
  zR 112 #[s] w (zd3 (yg s.data.toList)):=by
 cases h:Lib.parseIntB 64 s.data.toList with
 |ok v=>unfold yg;rw[h];exact zmA s w hs hw v h
 |«syntax»=>unfold yg;rw[h];exact zfe s w hs hw (fun v e=>by rw[h] at e;cases e)
 |range=>unfold yg;rw[h];exact zfe s w hs hw (fun v e=>by rw[h] at e;cases e)
end
section
open Go.RowKit Go.Shelf Sv
theorem zhM:∀(l:List UInt8) (c:UInt8),(Lib.index l [c]<0/\l.count c=0)\/∃j:Nat,Lib.index l [c]=(j:Int)/\l.count c=(l.drop (j+1)).count c+1:=by
 intro l c
 induction l with
 |nil=>exact .inl ⟨by simp[Lib.index],by simp⟩
 |cons b l ih =>
  by_cases h:c=b
  ·subst h;refine .inr ⟨0,?_,by simp⟩;unfold Lib.index;simp[List.isPrefixOf]
  ·have hp:List.isPrefixOf [c] (b :: l)=false:=by simp[List.isPrefixOf,h]
   have o:(b :: l).count c=l.count c:=List.count_cons_of_ne (by simpa using fun e=>h e.symm);rcases ih with ⟨h1,h2⟩|⟨j,h1,h2⟩
   ·refine .inl ⟨?_,by rw[o,h2]⟩;have:Lib.index l [c]=-1:=by have:=Lib.index_ge l [c];omega
    unfold Lib.index;rw[hp,this];simp
   ·refine .inr ⟨j+1,?_,by rw[o,h2];simp⟩;unfold Lib.index;rw[hp,h1];simp
theorem zbW(s:ByteArray)(c:UInt8):∀(f k:Nat),s.size<=k+f->k<=s.size->(zq s ⟨#[c]⟩ f k).length=(s.data.toList.drop k).count c+1:=by
 intro f
 induction f with
 |zero =>
  intro k h1 h2;obtain rfl:k=s.size:=by omega
  have:s.data.toList.drop s.size=[]:=List.drop_eq_nil_of_le (by simp);rw[this];simp[zq]
 |succ f ih =>
  intro k h1 h2;have hx:(s.extract k s.size).data.toList=s.data.toList.drop k:=Lib.extract_to_end s k;have hl:s.data.toList.length=s.size:=by simp
  rcases zhM (s.data.toList.drop k) c with ⟨h3,h4⟩|⟨j,h3,h4⟩
  ·rw[Ke (by rw[hx];exact h3),h4];rfl
  ·rw[K7 (j:=j) (by rw[hx];exact h3),List.length_cons];have hr:=Y9 (s.data.toList.drop k) [c] (by rw[h3];omega);rw[h3] at hr;simp only[List.length_drop,List.length_cons,List.length_nil,Int.toNat_natCast,hl] at hr;have hm:(⟨#[c]⟩:ByteArray).size=1:=rfl;rw[ih _ (by rw[hm];omega) (by rw[hm];omega),h4,hm,List.drop_drop];congr 3
def qH:List (Nat × ByteArray)->Except Int (List Nat)
 |[]=>.ok []
 |x :: r=>match yg x.2.data.toList with
  |.error k=>.error k
  |.ok n=>match qH r with
   |.error k=>.error k
   |.ok ns=>.ok (n :: ns)
theorem zbO:∀{l:List (Nat × ByteArray)} {ns:List Nat},qH l=.ok ns->ns.length=l.length:=by
 intro l
 induction l with
 |nil=>intro ns h;cases h;rfl
 |cons x r ih =>
  intro ns h;unfold qH at h;split at h
  ·cases h
  ·split at h
   ·cases h
   ·rename_i ns' h';cases h;simp[ih h']
theorem zcC{l r:List (Nat × ByteArray)}{k:Int}(h:qH l=.error k):qH (l++r)=.error k:=by
 induction l with
 |nil=>cases h
 |cons x l ih =>
  unfold qH at h;rw[List.cons_append,qH];split at h
  ·exact h
  ·split at h
   ·rename_i h'';cases h;rw[ih h'']
   ·cases h
theorem zfB{l:List (Nat × ByteArray)}{ns:List Nat}(h:qH l=.ok ns)(x:Nat × ByteArray):qH (l++[x])=match yg x.2.data.toList with
  |.error k=>.error k
  |.ok n=>.ok (ns++[n]):=by
 induction l generalizing ns with
 |nil =>cases h;rw[List.nil_append,qH];cases yg x.2.data.toList<;>rfl
 |cons y l ih =>
  unfold qH at h;rw[List.cons_append,qH];split at h
  ·cases h
  ·split at h
   ·cases h
   ·rename_i h'';cases h;rw[ih h''];cases yg x.2.data.toList<;>rfl
def zS(s:ByteArray):Except Int (List Nat):=if s.data.toList.count 46=2 then qH (zq s ⟨#[46]⟩ s.size 0) else .error 3
def xu(ns:List Nat):Array Value:=#[.int .i64 ((ns.getD 0 0:Nat):Int),.int .i64 ((ns.getD 1 0:Nat):Int),.int .i64 ((ns.getD 2 0:Nat):Int)]
def Qq:Except Int (List Nat)->Value
 |.ok ns=>.tuple #[.agg (xu ns),.nilIface]
 |.error k=>.tuple #[.agg #[(0:Int),(0:Int),(0:Int)],.iface 42 (.int .i64 k)]
theorem zib{l:List UInt8}{n:Nat}(h:yg l=.ok n):n<=999:=by
 unfold yg at h;split at h
 ·split at h
  ·cases h
  ·split at h
   ·cases h
   ·cases h;omega
 ·cases h
theorem zl3:∀{l:List (Nat × ByteArray)} {ns:List Nat},qH l=.ok ns->∀n∈ns,n<=999:=by
 intro l
 induction l with
 |nil=>intro ns h n hn;cases h;cases hn
 |cons x r ih =>
  intro ns h n hn;unfold qH at h;split at h
  ·cases h
  ·rename_i h0;split at h
   ·cases h
   ·rename_i ns' h';cases h;rcases List.mem_cons.1 hn with rfl|hn
    ·exact zib h0
    ·exact ih h' n hn
theorem YO{s:ByteArray}{ns:List Nat}(h:zS s=.ok ns):ns.length=3/\∀n∈ns,n<=999:=by
 unfold zS at h;split at h
 ·rename_i hc;refine⟨?_,zl3 h⟩;rw[zbO h,zbW s 46 s.size 0 (by omega) (Nat.zero_le _),List.drop_zero,hc]
 ·cases h
end
end Go.Proofs.YthifnefkdjkicaaGreatDoor
