/- How many pieces there are between marks of one byte; the parts of a version. -/
import Derived.Test.YtiihalknffbjpaaGreatDoorErErrs
import Derived.Test.YtiihalknffbjpaaGreatDoorProg
import Derived.WalkKit
import Derived.WalkSpells
import Derived.WalkLawsBesides
import Derived.Deep.Cut
import Derived.Deep.DeepCutAuto
import Derived.Deep.RegionWith
import Derived.Deep.RegionHeld3
import Derived.Deep.AppendLies
import Derived.Lib.QuietBelow
import Derived.Lib.Hide
import Derived.Lib.MinMax
import Derived.BigQuiet
import Derived.PlainAid
import Derived.Test.YtiihalknffbjpaaGreatDoorSvShelf
import Derived.Lib.AppendIntMem
set_option maxHeartbeats 4000000
set_option maxRecDepth 100000
namespace Go.Proofs.YtiihalknffbjpaaGreatDoor
open Go.RowKit Go.Extern.Stop Go.Stop Go.Extern
namespace Errs
theorem methodKind (h:Value) (w:World):(Go.method 613 362 (.agg #[h]) "Kind").run Tryz.prog w=.ok (379,h) w:=by kernel_rfl
theorem methodElem (h:Value) (w:World):(Go.method 613 362 (.agg #[h]) "Elem").run Tryz.prog w=.ok (392,.agg #[h]) w:=by kernel_rfl
theorem methodImplements (h:Value) (w:World):(Go.method 613 362 (.agg #[h]) "Implements").run Tryz.prog w=.ok (393,.agg #[h]) w:=by kernel_rfl
theorem methodAssignableTo (h:Value) (w:World):(Go.method 613 362 (.agg #[h]) "AssignableTo").run Tryz.prog w=.ok (390,.agg #[h]) w:=by kernel_rfl
theorem as_hit (n:Int) (t:Addr) (old:Value) (w:World) (hg:w.cell? ⟨2,0,none⟩=some (.iface 362 (.agg #[.pointer (some ⟨12,31,none⟩)]))) (ht0:w.cell? t=some old) (hf0:w.frozen? t=false) :
  Calls Tryz.prog 105 #[.iface 57 (.int .i64 n),.iface 197 (.pointer (some t))] w fun ev w'=>ev=.returned (.bool true)/\w'=((((w.alloc (.cells #[.pointer (some t)] 197)).alloc (.cells #[.pointer (some ⟨12,197,none⟩),.pointer (some ⟨w.heap.size,0,none⟩),.int .u64 150] 298)).alloc (.cells #[.pointer (some ⟨12,197,none⟩),.pointer (some ⟨w.heap.size,0,none⟩),.int .u64 150] 298)).alloc (.cells #[.int .i64 n] 57)).setCell t (.int .i64 n):=by
 have h6:=@run_callFunc_extern Tryz.prog 180 _ (fun args=>ReflectliteValue.unpack (args.getD 0 (.tuple #[]))) Tryz.func180 (by kernel_rfl) (by kernel_rfl) (by kernel_rfl) (by kernel_rfl)
 have h7:=@run_callFunc_extern Tryz.prog 181 _ (ReflectliteValue.methodAny (ReflectliteValue.valueError "reflectlite.Value.Type" 0) (fun t _ _ _=>ReflectliteType.toType t)) Tryz.func181 (by kernel_rfl) (by kernel_rfl) (by kernel_rfl) (by kernel_rfl)
 have h8:=@run_callFunc_extern Tryz.prog 182 _ (ReflectliteValue.method (ReflectliteValue.valueError "reflectlite.Value.IsNil" 0) ReflectliteValue.isNil) Tryz.func182 (by kernel_rfl) (by kernel_rfl) (by kernel_rfl) (by kernel_rfl)
 have h27:=@run_callFunc_extern Tryz.prog 379 _ (ReflectliteType.abiMethod fun t=>do pure (.int .u8 (<- Rtype.kind t))) Tryz.func379 (by kernel_rfl) (by kernel_rfl) (by kernel_rfl) (by kernel_rfl)
 have h37:=@run_callFunc_extern Tryz.prog 392 _ (ReflectliteType.method ReflectliteType.elem) Tryz.func392 (by kernel_rfl) (by kernel_rfl) (by kernel_rfl) (by kernel_rfl)
 have h38:=@run_callFunc_extern Tryz.prog 393 _ (ReflectliteType.relation "Implements" ReflectliteType.implements_) Tryz.func393 (by kernel_rfl) (by kernel_rfl) (by kernel_rfl) (by kernel_rfl)
 have h10:=@run_callFunc_extern Tryz.prog 242 _ ReflectliteType.typeOf Tryz.func242 (by kernel_rfl) (by kernel_rfl) (by kernel_rfl) (by kernel_rfl)
 have h35:=@run_callFunc_extern Tryz.prog 390 _ (ReflectliteType.relation "AssignableTo" ReflectliteType.assignableTo) Tryz.func390 (by kernel_rfl) (by kernel_rfl) (by kernel_rfl) (by kernel_rfl)
 have h11:=@run_callFunc_extern Tryz.prog 243 _ (ReflectliteValue.method (ReflectliteValue.valueError "reflectlite.Value.Elem" 0) ReflectliteValue.elem) Tryz.func243 (by kernel_rfl) (by kernel_rfl) (by kernel_rfl) (by kernel_rfl)
 have h12:=@run_callFunc_extern Tryz.prog 244 _ ReflectliteValue.set Tryz.func244 (by kernel_rfl) (by kernel_rfl) (by kernel_rfl) (by kernel_rfl)
 have tO:=typeOfE
 have mA:=methodAssignableTo
 have a25:=assignableE
 have v25:=valueOfE
 have f6:=valueOfP
 have f7:=typeP
 have mK:=methodKind
 have mE:=methodElem
 have mI:=methodImplements
 have k27:=kindP
 have k25:=kindE
 have e27:=elemP
 have i25:=implementsE
 have n8:=isNilP ⟨w.heap.size,0,none⟩ t ((w.alloc (.cells #[.pointer (some t)] 197)).alloc (.cells #[.pointer (some ⟨12,197,none⟩),.pointer (some ⟨w.heap.size,0,none⟩),.int .u64 150] 298)) (by simp)
 have hlt:2<w.heap.size:=by
  rcases Nat.lt_or_ge 2 w.heap.size with h | h
  ·exact h
  ·simp [World.cell?,Array.getElem?_eq_none h] at hg
 have hg2:((w.alloc (.cells #[.pointer (some t)] 197)).alloc (.cells #[.pointer (some ⟨12,197,none⟩),.pointer (some ⟨w.heap.size,0,none⟩),.int .u64 150] 298)).cell? ⟨2,0,none⟩=some (.iface 362 (.agg #[.pointer (some ⟨12,31,none⟩)])):=by
  rw [World.cell?_alloc_lt _ _ ⟨2,0,none⟩ (by simp only [World.size_alloc];omega),World.cell?_alloc_lt _ _ ⟨2,0,none⟩ hlt];exact hg
 have htl:t.block<w.heap.size:=by
  rcases Nat.lt_or_ge t.block w.heap.size with h | h
  ·exact h
  ·simp [World.cell?,Array.getElem?_eq_none h] at ht0
 have el:=elemVP ⟨w.heap.size,0,none⟩ t (((w.alloc (.cells #[.pointer (some t)] 197)).alloc (.cells #[.pointer (some ⟨12,197,none⟩),.pointer (some ⟨w.heap.size,0,none⟩),.int .u64 150] 298)).alloc (.cells #[.pointer (some ⟨12,197,none⟩),.pointer (some ⟨w.heap.size,0,none⟩),.int .u64 150] 298)) (by rw [World.cell?_alloc_lt _ _ ⟨w.heap.size,0,none⟩ (by simp;omega)];simp)
 have st:=setE t ⟨w.heap.size + 1 + 1 + 1,0,none⟩ n old ((((w.alloc (.cells #[.pointer (some t)] 197)).alloc (.cells #[.pointer (some ⟨12,197,none⟩),.pointer (some ⟨w.heap.size,0,none⟩),.int .u64 150] 298)).alloc (.cells #[.pointer (some ⟨12,197,none⟩),.pointer (some ⟨w.heap.size,0,none⟩),.int .u64 150] 298)).alloc (.cells #[.int .i64 n] 57))
  (by rw [World.cell?_alloc_at _ _ _ _ (by simp)];rfl)
  (by rw [World.cell?_alloc_lt _ _ t (by simp;omega),World.cell?_alloc_lt _ _ t (by simp;omega),World.cell?_alloc_lt _ _ t (by simp;omega),World.cell?_alloc_lt _ _ t htl];exact ht0)
  (by rw [World.frozen?_alloc_old _ _ t (by simp;omega),World.frozen?_alloc_old _ _ t (by simp;omega),World.frozen?_alloc_old _ _ t (by simp;omega),World.frozen?_alloc_old _ _ t (Nat.ne_of_lt htl)];exact hf0)
 go_enter Tryz.func105,Tryz.ntmps105
 go_wp2
 refine wp_loop_rounds 1 ?_
 rw [rounds_succ]
 go_wp2
 go_ret
 exact ⟨rfl,rfl⟩
end Errs
end Go.Proofs.YtiihalknffbjpaaGreatDoor
namespace Go.Proofs.YtiihalknffbjpaaGreatDoor
open Go.RowKit Go.Extern.Stop Go.Stop Go.Extern
def Glob (w:World):Prop:=w.cell? ⟨2,0,none⟩=some (.iface 362 (.agg #[.pointer (some ⟨12,31,none⟩)]))
theorem Glob.lt {w:World} (h:Glob w):2<w.heap.size:=by
 rcases Nat.lt_or_ge 2 w.heap.size with h1 | h1
 ·exact h1
 ·unfold Glob at h
  simp [World.cell?,Array.getElem?_eq_none h1] at h
theorem Glob.below {w w':World} (h:Glob w) (hb:Below w.heap.size w w'):Glob w':=(hb.cell (p:=⟨2,0,none⟩) h.lt).trans h
theorem tell_errno (n:Int) (w:World) (hg:Glob w) :
  Calls Tryz.prog 39 #[.iface 57 (.int .i64 n)] w fun e w'=>e=.returned (.int .i64 n)/\Below w.heap.size w w':=by
 have H:=Errs.as_hit n ⟨w.heap.size,0,none⟩ (.int .i64 0) (w.alloc (.cells #[.int .i64 0] 57)) (hg.below ((Below.refl _ _).alloc (Nat.le_refl _) _)) (cell1_0 _ _ _) (frozen1_0 _ _ _)
 go_enter Tryz.func39,Tryz.ntmps39
 go_wp2_with fail
 refine H.mono ?_
 rintro e w' ⟨rfl,hw⟩
 have hc:w'.cell? ⟨w.heap.size,0,none⟩=some (.int .i64 n):=by
  rw [hw]
  refine World.cell?_setCell_same' _ _ _ ?_
  rw [World.cell?_alloc_lt _ _ ⟨w.heap.size,0,none⟩ (by simp;omega),World.cell?_alloc_lt _ _ ⟨w.heap.size,0,none⟩ (by simp;omega),World.cell?_alloc_lt _ _ ⟨w.heap.size,0,none⟩ (by simp;omega),World.cell?_alloc_lt _ _ ⟨w.heap.size,0,none⟩ (by simp),cell1_0]
  rfl
 have hb:Below w.heap.size w w':=by
  rw [hw]
  exact ((((((Below.refl _ _).alloc (Nat.le_refl _) _).alloc (by simp) _).alloc (by simp;omega) _).alloc (by simp;omega) _).alloc (by simp;omega) _).setCell (Nat.le_refl _) _
 clear H hw
 go_wp2
 go_ret
 exact ⟨rfl,hb⟩
theorem tell_nil (w:World):Calls Tryz.prog 39 #[.nilIface] w fun e w'=>e=.returned (.int .i64 0)/\w=w':=by
 go_enter Tryz.func39,Tryz.ntmps39
 go_wp2
 go_ret
 exact ⟨rfl,rfl⟩
end Go.Proofs.YtiihalknffbjpaaGreatDoor
namespace Go.Proofs.YtiihalknffbjpaaGreatDoor.Sv
def ALL:Nat:=1000000000
abbrev Span:=Nat × Nat
def mem (l:List Span) (n:Nat):Prop:=∃ s ∈ l,s.1<=n/\n<s.2
theorem mem_nil (n:Nat):¬ mem [] n:=fun ⟨_,h,_⟩=>by cases h
theorem mem_cons {s:Span} {l:List Span} {n:Nat}:mem (s :: l) n ↔ (s.1<=n/\n<s.2)\/mem l n:=by
 unfold mem
 constructor
 ·rintro ⟨t,ht,h⟩
  rcases List.mem_cons.1 ht with rfl | ht
  ·exact Or.inl h
  ·exact Or.inr ⟨t,ht,h⟩
 ·rintro (h | ⟨t,ht,h⟩)
  ·exact ⟨s,List.mem_cons_self,h⟩
  ·exact ⟨t,List.mem_cons_of_mem _ ht,h⟩
def Canon (lo:Nat):List Span->Prop
 | []=>True
 | s :: r=>lo<=s.1/\s.1<s.2/\s.2<=ALL/\Canon (s.2 + 1) r
theorem Canon.mono {lo hi:Nat} {l:List Span} (h:Canon hi l) (hh:lo<=hi):Canon lo l:=by
 cases l with
 | nil=>trivial
 | cons s r=>exact ⟨Nat.le_trans hh h.1,h.2⟩
theorem Canon.ge {lo n:Nat} {l:List Span} (h:Canon lo l) (hm:mem l n):lo<=n:=by
 induction l generalizing lo with
 | nil=>exact absurd hm (mem_nil n)
 | cons s r ih =>
  rcases mem_cons.1 hm with ⟨h1,_⟩ | hm
  ·exact Nat.le_trans h.1 h1
  ·have:=ih h.2.2.2 hm
   have:=h.1;have:=h.2.1
   omega
theorem Canon.lt {lo n:Nat} {l:List Span} (h:Canon lo l) (hm:mem l n):n<ALL:=by
 induction l generalizing lo with
 | nil=>exact absurd hm (mem_nil n)
 | cons s r ih =>
  rcases mem_cons.1 hm with ⟨_,h1⟩ | hm
  ·exact Nat.lt_of_lt_of_le h1 h.2.2.1
  ·exact ih h.2.2.2 hm
def notF (e:Nat):List Span->List Span
 | []=>if e<ALL then [(e,ALL)] else []
 | s :: r=>if e<s.1 then (e,s.1) :: notF s.2 r else notF s.2 r
theorem canon_notF:∀ {l:List Span} {e:Nat},Canon e l->Canon e (notF e l):=by
 intro l
 induction l with
 | nil =>
  intro e _
  unfold notF
  split
  ·exact ⟨Nat.le_refl _,by assumption,Nat.le_refl _,trivial⟩
  ·trivial
 | cons s r ih =>
  intro e h
  obtain ⟨h1,h2,h3,h4⟩:=h
  have hr:=ih (h4.mono (Nat.le_succ _))
  unfold notF
  split
  ·exact ⟨Nat.le_refl _,by assumption,by simp only;omega,hr.mono (by simp only;omega)⟩
  ·exact hr.mono (by omega)
theorem mem_notF:∀ {l:List Span} {e n:Nat},Canon e l->(mem (notF e l) n ↔ (e<=n/\n<ALL/\¬ mem l n)):=by
 intro l
 induction l with
 | nil =>
  intro e n _
  unfold notF
  split
  ·rw [mem_cons]
   simp only [mem_nil,or_false,not_false_eq_true,and_true]
  ·simp only [mem_nil,not_false_eq_true,and_true,false_iff]
   omega
 | cons s r ih =>
  intro e n h
  obtain ⟨h1,h2,h3,h4⟩:=h
  have hr:=ih (n:=n) (h4.mono (Nat.le_succ s.2))
  have hg:mem r n->s.2 + 1<=n:=h4.ge
  unfold notF
  rw [mem_cons (s:=s)]
  split
  ·rw [mem_cons,hr]
   simp only
   by_cases hm:mem r n
   ·have:=hg hm;simp [hm];omega
   ·simp only [hm,not_false_eq_true,and_true,or_false];omega
  ·rw [hr]
   by_cases hm:mem r n
   ·simp [hm]
   ·simp only [hm,not_false_eq_true,and_true,or_false];omega
def andF:List Span->List Span->List Span
 | [],_=>[]
 | _ :: _,[]=>[]
 | s :: r,t :: q =>
  (if max s.1 t.1<min s.2 t.2 then [(max s.1 t.1,min s.2 t.2)] else [])++(if s.2<t.2 then andF r (t :: q) else andF (s :: r) q)
termination_by l m=>l.length + m.length
theorem andF_nil_right (l:List Span):andF l []=[]:=by cases l <;> simp [andF]
theorem canon_if {lo:Nat} {c:Prop} [Decidable c] {s:Span} {r:List Span} (h1:c->lo<=s.1/\s.1<s.2/\s.2<=ALL/\Canon (s.2 + 1) r) (h2:¬ c->Canon lo r):Canon lo ((if c then [s] else [])++r):=by
 by_cases h:c
 ·rw [if_pos h];exact h1 h
 ·rw [if_neg h];exact h2 h
theorem mem_if {n:Nat} {c:Prop} [Decidable c] {s:Span} {r:List Span}:mem ((if c then [s] else [])++r) n ↔ (c/\s.1<=n/\n<s.2)\/mem r n:=by
 by_cases h:c
 ·rw [if_pos h];simp only [List.cons_append,List.nil_append,h,true_and];exact mem_cons
 ·rw [if_neg h];simp [h]
theorem canon_andF:∀ (k:Nat) {l m:List Span} {lo lo':Nat},l.length + m.length<=k->Canon lo l->Canon lo' m->Canon (max lo lo') (andF l m):=by
 intro k
 induction k with
 | zero =>
  intro l m lo lo' hk _ _
  obtain rfl:l=[]:=List.length_eq_zero_iff.1 (by omega)
  simp only [andF];trivial
 | succ k ih =>
  intro l m lo lo' hk hl hm
  cases l with
  | nil=>simp only [andF];trivial
  | cons s r =>
   cases m with
   | nil=>simp only [andF];trivial
   | cons t q =>
    rw [andF]
    simp only [List.length_cons] at hk
    have hl':=hl
    have hm':=hm
    obtain ⟨h1,h2,h3,h4⟩:=hl
    obtain ⟨g1,g2,g3,g4⟩:=hm
    by_cases hlt:s.2<t.2
    ·rw [if_pos hlt]
     have:=ih (l:=r) (m:=t :: q) (lo:=s.2 + 1) (lo':=t.1) (by simp only [List.length_cons];omega) h4 ⟨Nat.le_refl _,g2,g3,g4⟩
     refine canon_if (fun hc=>⟨by simp only;omega,hc,by simp only;omega,this.mono (by simp only;omega)⟩) (fun hc=>this.mono (by omega))
    ·rw [if_neg hlt]
     have:=ih (l:=s :: r) (m:=q) (lo:=s.1) (lo':=t.2 + 1) (by simp only [List.length_cons];omega) ⟨Nat.le_refl _,h2,h3,h4⟩ g4
     refine canon_if (fun hc=>⟨by simp only;omega,hc,by simp only;omega,this.mono (by simp only;omega)⟩) (fun hc=>this.mono (by omega))
theorem mem_andF:∀ (k:Nat) {l m:List Span} {lo lo' n:Nat},l.length + m.length<=k->Canon lo l->Canon lo' m->(mem (andF l m) n ↔ mem l n/\mem m n):=by
 intro k
 induction k with
 | zero =>
  intro l m lo lo' n hk _ _
  obtain rfl:l=[]:=List.length_eq_zero_iff.1 (by omega)
  simp only [andF,mem_nil,false_and]
 | succ k ih =>
  intro l m lo lo' n hk hl hm
  cases l with
  | nil=>simp only [andF,mem_nil,false_and]
  | cons s r =>
   cases m with
   | nil=>simp only [andF,mem_nil,and_false]
   | cons t q =>
    rw [andF,mem_if]
    simp only [List.length_cons] at hk
    obtain ⟨h1,h2,h3,h4⟩:=hl
    obtain ⟨g1,g2,g3,g4⟩:=hm
    have hr:mem r n->s.2 + 1<=n:=h4.ge
    have hq:mem q n->t.2 + 1<=n:=g4.ge
    by_cases hlt:s.2<t.2
    ·rw [if_pos hlt,ih (l:=r) (m:=t :: q) (lo:=s.2 + 1) (lo':=t.1) (by simp only [List.length_cons];omega) h4 ⟨Nat.le_refl _,g2,g3,g4⟩,mem_cons,mem_cons]
     by_cases a:mem r n <;> by_cases b:mem q n <;> simp only [a,b,or_true,or_false,and_true,true_and,false_and] <;> (try have:=hr a) <;> (try have:=hq b) <;> omega
    ·rw [if_neg hlt,ih (l:=s :: r) (m:=q) (lo:=s.1) (lo':=t.2 + 1) (by simp only [List.length_cons];omega) ⟨Nat.le_refl _,h2,h3,h4⟩ g4,mem_cons,mem_cons]
     by_cases a:mem r n <;> by_cases b:mem q n <;> simp only [a,b,or_true,or_false,and_true,and_false,true_and] <;> (try have:=hr a) <;> (try have:=hq b) <;> omega
abbrev Rg (l:List Span):Prop:=Canon 0 l
def nt (l:List Span):List Span:=notF 0 l
def nd (l m:List Span):List Span:=andF l m
def orr (l m:List Span):List Span:=nt (nd (nt l) (nt m))
def rowF (a b:Nat):List Span:=if a<b then [(a,b)] else []
def anyF:List Span:=[(0,ALL)]
theorem rg_any:Rg anyF:=⟨Nat.le_refl _,by decide,Nat.le_refl _,trivial⟩
theorem rg_nil:Rg []:=trivial
theorem rg_row {a b:Nat} (h:b<=ALL):Rg (rowF a b):=by
 unfold rowF;split
 ·exact ⟨Nat.zero_le _,by assumption,h,trivial⟩
 ·trivial
theorem rg_nt {l:List Span} (h:Rg l):Rg (nt l):=canon_notF h
theorem rg_nd {l m:List Span} (h:Rg l) (h':Rg m):Rg (nd l m):=(canon_andF _ (Nat.le_refl _) h h').mono (Nat.zero_le _)
theorem rg_orr {l m:List Span} (h:Rg l) (h':Rg m):Rg (orr l m):=rg_nt (rg_nd (rg_nt h) (rg_nt h'))
theorem mem_any {n:Nat}:mem anyF n ↔ n<ALL:=by unfold anyF;rw [mem_cons];simp [mem_nil]
theorem mem_nt {l:List Span} {n:Nat} (h:Rg l):mem (nt l) n ↔ n<ALL/\¬ mem l n:=by
 unfold nt;rw [mem_notF h];simp
theorem mem_nd {l m:List Span} {n:Nat} (h:Rg l) (h':Rg m):mem (nd l m) n ↔ mem l n/\mem m n:=mem_andF _ (Nat.le_refl _) h h'
theorem mem_orr {l m:List Span} {n:Nat} (h:Rg l) (h':Rg m):mem (orr l m) n ↔ mem l n\/mem m n:=by
 unfold orr
 rw [mem_nt (rg_nd (rg_nt h) (rg_nt h')),mem_nd (rg_nt h) (rg_nt h'),mem_nt h,mem_nt h']
 have h1:mem l n->n<ALL:=h.lt
 have h2:mem m n->n<ALL:=h'.lt
 by_cases a:mem l n <;> by_cases b:mem m n <;> by_cases c:n<ALL <;> simp_all
end Go.Proofs.YtiihalknffbjpaaGreatDoor.Sv
namespace Go.Proofs.YtiihalknffbjpaaGreatDoor
open Go.RowKit Sv
def scells (l:List Span):List Value:=l.flatMap fun s=>[.int .i64 (s.1:Int),.int .i64 (s.2:Int)]
def sp (l:List Span) (i:Nat):Span:=l.getD i (0,0)
theorem sp_at (l:List Span) (i:Nat) (h:i<l.length):sp l i=l[i]:=by unfold sp;simp [List.getD_eq_getElem?_getD,List.getElem?_eq_getElem h]
theorem sp_cons_succ (s:Span) (l:List Span) (i:Nat):sp (s :: l) (i + 1)=sp l i:=by simp [sp]
theorem scells_append (a b:List Span):scells (a++b)=scells a++scells b:=by simp [scells]
theorem scells_at:∀ (l:List Span) (i:Nat),i<l.length->(scells l)[i * 2]?=some (.int .i64 ((sp l i).1:Int))/\(scells l)[i * 2 + 1]?=some (.int .i64 ((sp l i).2:Int))
 | [],i,h=>by simp at h
 | n :: l,0,_=>by simp [scells,sp]
 | n :: l,i + 1,h=>by
  have ih:=scells_at l i (by simpa using h)
  rw [sp_cons_succ]
  have e2:∀ j,(scells (n :: l))[j + 2]?=(scells l)[j]?:=fun j=>by
   show ([Value.int .i64 (n.1:Int),.int .i64 (n.2:Int)]++scells l)[j + 2]?=_
   rw [List.getElem?_append_right (by simp)];simp
  rw [show (i + 1) * 2=i * 2 + 2 by omega,show i * 2 + 2 + 1=(i * 2 + 1) + 2 by omega,e2,e2]
  exact ih
structure SpAt (w:World) (v:Value) (l:List Span):Prop where
 form:∃ a cap,v=.slice a l.length cap
 cells:∀ i,i<l.length->∃ g cap,v=.slice (some ⟨g,0,none⟩) l.length cap/\g<w.heap.size/\w.cell? ⟨g,i * 2,none⟩=some (.int .i64 ((sp l i).1:Int))/\w.cell? ⟨g,i * 2 + 1,none⟩=some (.int .i64 ((sp l i).2:Int))
theorem spAt_nil (w:World):SpAt w (.slice none 0 0) []:=⟨⟨none,0,rfl⟩,fun i h=>by simp at h⟩
theorem SpAt.below {B:Nat} {w w':World} {v:Value} {l:List Span} (h:SpAt w v l) (hb:Below B w w') (hB:w.heap.size<=B):SpAt w' v l :=
 ⟨h.form,fun i hi=>by
  obtain ⟨g,cap,e,hg,c0,c1⟩:=h.cells i hi
  exact ⟨g,cap,e,Nat.lt_of_lt_of_le hg hb.size,(hb.cell (p:=⟨g,i * 2,none⟩) (by show g<B;omega)).trans c0,(hb.cell (p:=⟨g,i * 2 + 1,none⟩) (by show g<B;omega)).trans c1⟩⟩
theorem spAt_row {B:Nat} {w:World} {v:Value} {l:List Span} (h:w.ownsRow B 402 2 v l.length (scells l)):SpAt w v l:=by
 rcases h.2 with ⟨e,e0⟩ | ⟨g,cap,cur,e,hB,hg,hn,hm,hsz,htake⟩
 ·exact ⟨⟨none,0,by rw [e,e0]⟩,fun i hi=>by omega⟩
 ·refine ⟨⟨_,_,e⟩,fun i hi=>?_⟩
  have hlt:g<w.heap.size:=(h.lt g (by rw [e];rfl)).2
  obtain ⟨c0,c1⟩:=scells_at l i hi
  have cell:∀ j,j<l.length * 2->w.cell? ⟨g,j,none⟩=(scells l)[j]?:=fun j hj=>by
   rw [<- htake,List.getElem?_take,if_pos (by omega)]
   simp [World.cell?,hg]
  exact ⟨g,cap,e,hlt,(cell _ (by omega)).trans c0,(cell _ (by omega)).trans c1⟩
theorem canon_len:∀ {l:List Span} {lo:Nat},Canon lo l->lo<=ALL + 1->2 * l.length + lo<=ALL + 1:=by
 intro l
 induction l with
 | nil=>intro lo _ h;simpa using h
 | cons s r ih =>
  intro lo h hlo
  obtain ⟨h1,h2,h3,h4⟩:=h
  have:=ih h4 (by omega)
  simp only [List.length_cons];omega
theorem rg_len {l:List Span} (h:Rg l):l.length<=500000000:=by
 have:=canon_len h (Nat.zero_le _)
 unfold ALL at this;omega
theorem infoSpan:(Tryz.prog.info? 402).map (fun i=>(i.zero,i.size,i.bytes))=some (some (.agg #[.int .i64 0,.int .i64 0]),2,16):=by kernel_rfl
theorem row_form2 {B n:Nat} {w:World} {v:Value} {t:TypeId} {cs:List Value} (h:w.ownsRow B t 2 v n cs):∃ a c,v=.slice a n c:=by
 rcases h.2 with ⟨e,e0⟩ | ⟨g,cap,cur,e,-⟩
 ·exact ⟨none,0,by rw [e,e0]⟩
 ·exact ⟨_,_,e⟩
theorem cell_two_new (w:World) (A B:Value) (t:TypeId):∀ (j:Nat) (u:Value),[A,B][j]?=some u->(w.alloc (.cells #[A,B] t)).cell? (Addr.add ⟨w.heap.size,0,none⟩ j)=some u:=by
 intro j u h
 match j,h with
 | 0,h=>simp at h;subst h;simp [Addr.add]
 | 1,h=>simp at h;subst h;simp [Addr.add]
 | j + 2,h=>simp at h
theorem grown_cell {w w':World} {row:Option Nat} (hg:w.grownBy w' row) {b i:Nat} (hb:b<w.heap.size) (hne:some b ≠ row):w'.cell? ⟨b,i,none⟩=w.cell? ⟨b,i,none⟩:=by
 unfold World.cell?;rw [hg.block b hb hne]
theorem row_old {B n:Nat} {w:World} {v:Value} {t:TypeId} {cs:List Value} (h:w.ownsRow B t 2 v n cs) {b:Nat} (hb:w.heap.size<=b):some b ≠ v.ownBlock:=fun e=>by
 have:=(h.lt b e.symm).2
 omega
theorem row_set {B n b:Nat} {w:World} {v x:Value} {t:TypeId} {cs:List Value} (h:w.ownsRow B t 2 v n cs) (hb:b<B):(w.setCell ⟨b,0,none⟩ x).ownsRow B t 2 v n cs:=by
 refine ⟨h.1,?_⟩
 rcases h.2 with h1 | ⟨g,cap,cur,h1,h2,h3,h4⟩
 ·exact .inl h1
 ·exact .inr ⟨g,cap,cur,h1,h2,(Below.heap_setCell _ _ _ g (by show g ≠ b;omega)).trans h3,h4⟩
theorem cell1 (w:World) (A:Value) (t:TypeId):(w.alloc (.cells #[A] t)).cell? ⟨w.heap.size,0,none⟩=some A:=by simp
theorem cell2 (w:World) (A B:Value) (t:TypeId):(w.alloc (.cells #[A,B] t)).cell? ⟨w.heap.size,0,none⟩=some A/\(w.alloc (.cells #[A,B] t)).cell? ⟨w.heap.size,1,none⟩=some B:=⟨by simp,by simp⟩
theorem frozen1 (w:World) (A:Value) (t:TypeId):(w.alloc (.cells #[A] t)).frozen? ⟨w.heap.size,0,none⟩=false:=by simp
structure Box3 (w W:World) (A B C:Value):Prop where
 below:Below w.heap.size w W
 size:W.heap.size=w.heap.size + 3
 c0:W.cell? ⟨w.heap.size,0,none⟩=some A
 c1:W.cell? ⟨w.heap.size + 1,0,none⟩=some B
 c2:W.cell? ⟨w.heap.size + 1 + 1,0,none⟩=some C
 f2:W.frozen? ⟨w.heap.size + 1 + 1,0,none⟩=false
theorem box3 (w:World) (A B C:Value) (t t' t'':TypeId):Box3 w (((w.alloc (.cells #[A] t)).alloc (.cells #[B] t')).alloc (.cells #[C] t'')) A B C:=by
 have s1:(w.alloc (.cells #[A] t)).heap.size=w.heap.size + 1:=World.size_alloc _ _
 have h1:=cell1 w A t
 have h2:=cell1 (w.alloc (.cells #[A] t)) B t'
 have h3:=cell1 ((w.alloc (.cells #[A] t)).alloc (.cells #[B] t')) C t''
 have f3:=frozen1 ((w.alloc (.cells #[A] t)).alloc (.cells #[B] t')) C t''
 have s2:((w.alloc (.cells #[A] t)).alloc (.cells #[B] t')).heap.size=w.heap.size + 1 + 1:=by rw [World.size_alloc,s1]
 have b1:Below w.heap.size w (w.alloc (.cells #[A] t)):=(Below.refl _ w).alloc (Nat.le_refl _) _
 have b2:Below (w.heap.size + 1) (w.alloc (.cells #[A] t)) ((w.alloc (.cells #[A] t)).alloc (.cells #[B] t')):=(Below.refl _ _).alloc (by omega) _
 have b3:Below (w.heap.size + 1 + 1) ((w.alloc (.cells #[A] t)).alloc (.cells #[B] t')) (((w.alloc (.cells #[A] t)).alloc (.cells #[B] t')).alloc (.cells #[C] t'')):=(Below.refl _ _).alloc (by omega) _
 rw [s1] at h2
 rw [s2] at h3 f3
 refine ⟨b1.trans ((b2.mono (by omega)).trans (b3.mono (by omega))),by rw [World.size_alloc,s2],?_,?_,h3,f3⟩
 ·exact (b3.cell (p:=⟨w.heap.size,0,none⟩) (by show w.heap.size<_;omega)).trans ((b2.cell (p:=⟨w.heap.size,0,none⟩) (by show w.heap.size<_;omega)).trans h1)
 ·exact (b3.cell (p:=⟨w.heap.size + 1,0,none⟩) (by show w.heap.size + 1<_;omega)).trans h2
structure TwoAt (w W:World) (bs bt:Nat) (A T C D:Value):Prop where
 below:Below w.heap.size w W
 hs:w.heap.size<=bs
 ht:w.heap.size<=bt
 ls:bs<W.heap.size
 lt:bt<W.heap.size
 s0:W.cell? ⟨bs,0,none⟩=some A
 s1:W.cell? ⟨bs,1,none⟩=some T
 t0:W.cell? ⟨bt,0,none⟩=some C
 t1:W.cell? ⟨bt,1,none⟩=some D
theorem two_st (w:World) (A T C D:Value) (t t':TypeId):TwoAt w ((w.alloc (.cells #[A,T] t)).alloc (.cells #[C,D] t')).drew w.heap.size (w.heap.size + 1) A T C D:=by
 have s1:(w.alloc (.cells #[A,T] t)).heap.size=w.heap.size + 1:=World.size_alloc _ _
 have s2:((w.alloc (.cells #[A,T] t)).alloc (.cells #[C,D] t')).heap.size=w.heap.size + 1 + 1:=by rw [World.size_alloc,s1]
 have b1:Below w.heap.size w (w.alloc (.cells #[A,T] t)):=(Below.refl _ w).alloc (Nat.le_refl _) _
 have b2:Below (w.heap.size + 1) (w.alloc (.cells #[A,T] t)) ((w.alloc (.cells #[A,T] t)).alloc (.cells #[C,D] t')).drew:=((Below.refl _ _).alloc (by omega) _).drew
 have h1:=cell2 w A T t
 have h2:=cell2 (w.alloc (.cells #[A,T] t)) C D t'
 rw [s1] at h2
 have ls:w.heap.size<((w.alloc (.cells #[A,T] t)).alloc (.cells #[C,D] t')).drew.heap.size:=by show w.heap.size<((w.alloc (.cells #[A,T] t)).alloc (.cells #[C,D] t')).heap.size;omega
 have lt:w.heap.size + 1<((w.alloc (.cells #[A,T] t)).alloc (.cells #[C,D] t')).drew.heap.size:=by show w.heap.size + 1<((w.alloc (.cells #[A,T] t)).alloc (.cells #[C,D] t')).heap.size;omega
 exact ⟨b1.trans (b2.mono (by omega)),Nat.le_refl _,by omega,ls,lt,(b2.cell (p:=⟨w.heap.size,0,none⟩) (by show w.heap.size<_;omega)).trans h1.1,(b2.cell (p:=⟨w.heap.size,1,none⟩) (by show w.heap.size<_;omega)).trans h1.2,h2.1,h2.2⟩
theorem two_ts (w:World) (A T C D:Value) (t t':TypeId):TwoAt w ((w.alloc (.cells #[C,D] t')).alloc (.cells #[A,T] t)).drew (w.heap.size + 1) w.heap.size A T C D:=by
 have h:=two_st w C D A T t' t
 exact ⟨h.below,h.ht,h.hs,h.lt,h.ls,h.t0,h.t1,h.s0,h.s1⟩
theorem TwoAt.drewN {w W:World} {bs bt:Nat} {A T C D:Value} (h:TwoAt w W bs bt A T C D) (n:Nat):TwoAt w (W.drewN n) bs bt A T C D:=by
 induction n with
 | zero=>exact h
 | succ n ih=>exact ⟨⟨ih.below.os,ih.below.tape,ih.below.output,ih.below.size,ih.below.block⟩,ih.hs,ih.ht,ih.ls,ih.lt,ih.s0,ih.s1,ih.t0,ih.t1⟩
theorem row_below {B n b:Nat} {w w':World} {v:Value} {t:TypeId} {cs:List Value} (h:w.ownsRow B t 2 v n cs) (hb:Below b w w') (hB:w.heap.size<=b):w'.ownsRow B t 2 v n cs:=by
 refine ⟨h.1,?_⟩
 rcases h.2 with h1 | ⟨g,cap,cur,h1,h2,h3,h4⟩
 ·exact .inl h1
 ·exact .inr ⟨g,cap,cur,h1,h2,(hb.block g (by have:=(h.lt g (by rw [h1];rfl)).2;omega)).trans h3,h4⟩
def RgOut (w:World) (l:List Span) (e:Ending) (w':World):Prop:=∃ v',e=.returned (.agg #[v'])/\SpAt w' v' l/\(∀ g,v'.ownBlock=some g->w.heap.size<=g)/\Below w.heap.size w w'
theorem SpAt.set {w:World} {v x:Value} {l:List Span} {b:Nat} (h:SpAt w v l) (hn:v.ownBlock ≠ some b):SpAt (w.setCell ⟨b,0,none⟩ x) v l :=
 ⟨h.form,fun i hi=>by
  obtain ⟨g,cap,e,hg,c0,c1⟩:=h.cells i hi
  have hne:g ≠ b:=fun e'=>hn (by rw [e,e'];rfl)
  have hh:=Below.heap_setCell w ⟨b,0,none⟩ x g hne
  refine ⟨g,cap,e,Nat.lt_of_lt_of_le hg ((Below.refl 0 w).setCell (p:=⟨b,0,none⟩) (Nat.zero_le _) x).size,?_,?_⟩
  ·rw [<- c0];unfold World.cell?;rw [hh]
  ·rw [<- c1];unfold World.cell?;rw [hh]⟩
end Go.Proofs.YtiihalknffbjpaaGreatDoor
namespace Go.Proofs.YtiihalknffbjpaaGreatDoor
open Go.RowKit Go.Shelf Go.Sort Sv
structure Lb (w:World):Prop where
 ml:∃ n,w.cell? ⟨5,0,none⟩=some (.int .i64 n)
 es:∃ ev,w.cell? ⟨10,0,none⟩=some ev/\(ev=.nilIface\/∃ te pe,ev=.iface te pe)
 er:∃ ev,w.cell? ⟨11,0,none⟩=some ev/\(ev=.nilIface\/∃ te pe,ev=.iface te pe)
 tab:Lib.TabIs Tryz.prog w "internal/strconv.uint64pow10" .u64 Lib.pow10Tab
 glob:Glob w
 big:12<=w.heap.size
theorem Lb.below {w w':World} (h:Lb w) (hb:Below w.heap.size w w'):Lb w':=by
 have hbig:=h.big
 obtain ⟨n,h1⟩:=h.ml
 obtain ⟨e3,h3,h3'⟩:=h.es
 obtain ⟨e4,h4,h4'⟩:=h.er
 exact ⟨⟨n,(hb.cell (p:=⟨5,0,none⟩) (by show 5<_;omega)).trans h1⟩,⟨e3,(hb.cell (p:=⟨10,0,none⟩) (by show 10<_;omega)).trans h3,h3'⟩,⟨e4,(hb.cell (p:=⟨11,0,none⟩) (by show 11<_;omega)).trans h4,h4'⟩,Lib.tabBelow_of_tabIs h.tab w' hb,h.glob.below hb,Nat.le_trans hbig hb.size⟩
def partF (l:List UInt8):Except Int Nat :=
 match Lib.parseIntB 64 l with
 | .ok v=>if v<0\/Lib.itoa v ≠ l then .error 3 else if 999<v then .error 2 else .ok v.toNat
 | _=>.error 3
def partV:Except Int Nat->Value
 | .ok n=>.tuple #[.int .i64 (n:Int),.nilIface]
 | .error k=>.tuple #[.int .i64 0,.iface 57 (.int .i64 k)]
theorem grow_below (B:Nat) (w:World) (k:Nat) (os:Array Obj) (h:B<=w.heap.size):Below B w (grow (w.drewN k) os):=Lib.below_grow _ w h k os
theorem bytesWorld_below (w:World) (t:ByteArray):Below w.heap.size w (Lib.bytesWorld w 5 t):=by
 have h:=((Below.refl w.heap.size w).drew).alloc (Nat.le_refl _) (.cells (Lib.bytesCells w 5 t) 5)
 refine ⟨h.os,h.tape,h.output,?_,fun k hk=>?_⟩
 ·exact Nat.le_trans h.size (by simp [Lib.bytesWorld,World.freeze])
 ·rw [<- h.block k hk]
  simp only [Lib.bytesWorld,World.freeze]
  rw [if_neg (by decide),Array.getElem?_modify,if_neg (by omega)]
theorem pint_range {l:List UInt8} {v:Int} (h:Lib.parseIntB 64 l=.ok v):-9223372036854775808<=v/\v<=9223372036854775807:=by
 unfold Lib.parseIntB at h
 split at h
 ·cases h
 ·simp only at h
  split at h
  ·cases h
  ·cases h
  ·split at h
   ·cases h
   ·split at h
    ·cases h
    ·cases h
     split <;> simp_all <;> omega
theorem part_bad (s:ByteArray) (w:World) (hs:s.size<=100000) (hw:Lb w) (h:∀ v,Lib.parseIntB 64 s.data.toList ≠ .ok v) :
  Calls Tryz.prog 208 #[.string s] w fun e w'=>e=.returned (.tuple #[.int .i64 0,.iface 57 (.int .i64 3)])/\Below w.heap.size w w':=by
 have H:Hid (Calls Tryz.prog 270 #[.string s,.int .i64 10,.int .i64 64] w fun e w'=>∃ N x,e=.returned (.tuple #[.int .i64 x,.iface 458 (.pointer (some ⟨N,0,none⟩))])/\Below w.heap.size w w'):=by
  cases hp:Lib.parseIntB 64 s.data.toList with
  | ok v=>exact absurd hp (h v)
  | «syntax» =>
   obtain ⟨ev,h3,h3'⟩:=hw.es
   exact (Tryz.strconv_ParseInt_10_at64_syntax s (by omega) hp ev w h3 h3').mono fun e w' ⟨N,he,_,_,hb⟩=>⟨N,_,he,hb⟩
  | range =>
   obtain ⟨ev,h3,h3'⟩:=hw.er
   exact (Tryz.strconv_ParseInt_10_at64_range s (by omega) hp ev w h3 h3').mono fun e w' ⟨N,he,_,_,hb⟩=>⟨N,_,he,hb⟩
 clear h hw
 go_enter Tryz.func208,Tryz.ntmps208
 go_wp2_with fail
 refine H.out.mono ?_
 rintro e w1 ⟨N,x,rfl,hb⟩
 have HB:=Lib.hid hb
 clear hb H
 go_wp2
 go_ret2
 exact ⟨rfl,HB.out⟩
theorem part_ok (s:ByteArray) (w:World) (hs:s.size<=100000) (hw:Lb w) (v:Int) (h:Lib.parseIntB 64 s.data.toList=.ok v) :
  Calls Tryz.prog 208 #[.string s] w fun e w'=>e=.returned (partV (if v<0\/Lib.itoa v ≠ s.data.toList then .error 3 else if 999<v then .error 2 else .ok v.toNat))/\Below w.heap.size w w':=by
 obtain ⟨r0,r1⟩:=pint_range h
 have H:Hid (Calls Tryz.prog 270 #[.string s,.int .i64 10,.int .i64 64] w fun e w'=>e=.returned (.tuple #[.int .i64 v,.nilIface])/\Below w.heap.size w w'):=(Tryz.strconv_ParseInt_10_at64_ok s (by omega) v h w).mono fun e w' ⟨he,hw'⟩=>by
  refine ⟨he,?_⟩
  rcases hw' with rfl | ⟨t,rfl⟩
  ·exact Below.refl _ _
  ·exact bytesWorld_below w t
 have HF:Hid (∀ W,Below w.heap.size w W->Calls Tryz.prog 271 #[.int .i64 v,.int .i64 10] W fun e w'=>e=.returned (.string ⟨(Lib.itoa v).toArray⟩)/\Below W.heap.size W w'):=fun W hb=>(Tryz.strconv_FormatInt_10 v r0 r1 W (hw.below hb).tab).mono fun e w' ⟨he,k,os,hw'⟩=>⟨he,hw' ▸ grow_below _ W k os (Nat.le_refl _)⟩
 clear h hw
 by_cases hneg:v<0
 ·rw [if_pos (Or.inl hneg)]
  go_enter Tryz.func208,Tryz.ntmps208
  go_wp2_with fail
  refine H.out.mono ?_
  rintro e w1 ⟨rfl,hb⟩
  have HB:=Lib.hid hb
  clear hb H
  go_wp2
  go_ret2
  exact ⟨rfl,HB.out⟩
 ·generalize Lib.itoa v=l at *
  by_cases hl:l=s.data.toList
  ·have heq:(l == s.toList)=true:=by rw [ByteArray.toList_eq,hl];simp
   rw [if_neg (by rintro (h | h);exact hneg h;exact h hl)]
   clear hl
   by_cases hbig:999<v
   ·rw [if_pos hbig]
    go_enter Tryz.func208,Tryz.ntmps208
    go_wp2_with fail
    refine H.out.mono ?_
    rintro e w1 ⟨rfl,hb⟩
    have H2:=Lib.hid (HF.out _ hb)
    have HB:=Lib.hid hb
    clear hb H HF
    go_wp2_with fail
    refine H2.out.mono ?_
    rintro e w2 ⟨rfl,hb2⟩
    have HB2:Hid (Below w.heap.size w w2):=HB.out.trans (hb2.mono HB.out.size)
    clear hb2 H2 HB
    go_wp2
    go_ret2
    exact ⟨rfl,HB2.out⟩
   ·rw [if_neg hbig]
    have hv:((v.toNat:Nat):Int)=v:=by omega
    go_enter Tryz.func208,Tryz.ntmps208
    go_wp2_with fail
    refine H.out.mono ?_
    rintro e w1 ⟨rfl,hb⟩
    have H2:=Lib.hid (HF.out _ hb)
    have HB:=Lib.hid hb
    have HV:=Lib.hid hv
    clear hb H HF hv
    go_wp2_with fail
    refine H2.out.mono ?_
    rintro e w2 ⟨rfl,hb2⟩
    have HB2:Hid (Below w.heap.size w w2):=HB.out.trans (hb2.mono HB.out.size)
    clear hb2 H2 HB
    go_wp2
    go_ret2
    exact ⟨(show Ending.returned (.tuple #[.int .i64 v,.nilIface])=.returned (.tuple #[.int .i64 ((v.toNat:Nat):Int),.nilIface]) by rw [HV.out]),HB2.out⟩
  ·have heq:(l == s.toList)=false:=by rw [ByteArray.toList_eq];simpa using hl
   rw [if_pos (Or.inr hl)]
   clear hl
   go_enter Tryz.func208,Tryz.ntmps208
   go_wp2_with fail
   refine H.out.mono ?_
   rintro e w1 ⟨rfl,hb⟩
   have H2:=Lib.hid (HF.out _ hb)
   have HB:=Lib.hid hb
   clear hb H HF
   go_wp2_with fail
   refine H2.out.mono ?_
   rintro e w2 ⟨rfl,hb2⟩
   have HB2:Hid (Below w.heap.size w w2):=HB.out.trans (hb2.mono HB.out.size)
   clear hb2 H2 HB
   go_wp2
   go_ret2
   exact ⟨rfl,HB2.out⟩
theorem part_any (s:ByteArray) (w:World) (hs:s.size<=100000) (hw:Lb w) :
  Calls Tryz.prog 208 #[.string s] w fun e w'=>e=.returned (partV (partF s.data.toList))/\Below w.heap.size w w':=by
 cases h:Lib.parseIntB 64 s.data.toList with
 | ok v=>unfold partF;rw [h];exact part_ok s w hs hw v h
 | «syntax»=>unfold partF;rw [h];exact part_bad s w hs hw (fun v e=>by rw [h] at e;cases e)
 | range=>unfold partF;rw [h];exact part_bad s w hs hw (fun v e=>by rw [h] at e;cases e)
end Go.Proofs.YtiihalknffbjpaaGreatDoor
namespace Go.Proofs.YtiihalknffbjpaaGreatDoor
open Go.RowKit Go.Shelf Sv
theorem index_byte:∀ (l:List UInt8) (c:UInt8),(Lib.index l [c]<0/\l.count c=0)\/∃ j:Nat,Lib.index l [c]=(j:Int)/\l.count c=(l.drop (j + 1)).count c + 1:=by
 intro l c
 induction l with
 | nil=>exact .inl ⟨by simp [Lib.index],by simp⟩
 | cons b l ih =>
  by_cases h:c=b
  ·subst h
   refine .inr ⟨0,?_,by simp⟩
   unfold Lib.index
   simp [List.isPrefixOf]
  ·have hp:List.isPrefixOf [c] (b :: l)=false:=by simp [List.isPrefixOf,h]
   have hcount:(b :: l).count c=l.count c:=List.count_cons_of_ne (by simpa using fun e=>h e.symm)
   rcases ih with ⟨h1,h2⟩ | ⟨j,h1,h2⟩
   ·refine .inl ⟨?_,by rw [hcount,h2]⟩
    have:Lib.index l [c]=-1:=by have:=Lib.index_ge l [c];omega
    unfold Lib.index
    rw [hp,this];simp
   ·refine .inr ⟨j + 1,?_,by rw [hcount,h2];simp⟩
    unfold Lib.index
    rw [hp,h1]
    simp
theorem cuts_count (s:ByteArray) (c:UInt8):∀ (f k:Nat),s.size<=k + f->k<=s.size->(cutB s ⟨#[c]⟩ f k).length=(s.data.toList.drop k).count c + 1:=by
 intro f
 induction f with
 | zero =>
  intro k h1 h2
  obtain rfl:k=s.size:=by omega
  have:s.data.toList.drop s.size=[]:=List.drop_eq_nil_of_le (by simp)
  rw [this];simp [cutB]
 | succ f ih =>
  intro k h1 h2
  have hx:(s.extract k s.size).data.toList=s.data.toList.drop k:=Lib.extract_to_end s k
  have hl:s.data.toList.length=s.size:=by simp
  rcases index_byte (s.data.toList.drop k) c with ⟨h3,h4⟩ | ⟨j,h3,h4⟩
  ·rw [cutB_end (by rw [hx];exact h3),h4];rfl
  ·rw [cutB_step (j:=j) (by rw [hx];exact h3),List.length_cons]
   have hr:=index_room (s.data.toList.drop k) [c] (by rw [h3];omega)
   rw [h3] at hr
   simp only [List.length_drop,List.length_cons,List.length_nil,Int.toNat_natCast,hl] at hr
   have hm:(⟨#[c]⟩:ByteArray).size=1:=rfl
   rw [ih _ (by rw [hm];omega) (by rw [hm];omega),h4,hm,List.drop_drop]
   congr 3
def partsF:List (Nat × ByteArray)->Except Int (List Nat)
 | []=>.ok []
 | x :: r=>match partF x.2.data.toList with
  | .error k=>.error k
  | .ok n=>match partsF r with
   | .error k=>.error k
   | .ok ns=>.ok (n :: ns)
theorem partsF_len:∀ {l:List (Nat × ByteArray)} {ns:List Nat},partsF l=.ok ns->ns.length=l.length:=by
 intro l
 induction l with
 | nil=>intro ns h;cases h;rfl
 | cons x r ih =>
  intro ns h
  unfold partsF at h
  split at h
  ·cases h
  ·split at h
   ·cases h
   ·rename_i ns' h'
    cases h
    simp [ih h']
theorem partsF_app_error {l r:List (Nat × ByteArray)} {k:Int} (h:partsF l=.error k):partsF (l++r)=.error k:=by
 induction l with
 | nil=>cases h
 | cons x l ih =>
  unfold partsF at h
  rw [List.cons_append,partsF]
  split at h
  ·exact h
  ·split at h
   ·rename_i h'';cases h;rw [ih h'']
   ·cases h
theorem partsF_snoc {l:List (Nat × ByteArray)} {ns:List Nat} (h:partsF l=.ok ns) (x:Nat × ByteArray):partsF (l++[x])=match partF x.2.data.toList with
  | .error k=>.error k
  | .ok n=>.ok (ns++[n]):=by
 induction l generalizing ns with
 | nil =>
  cases h
  rw [List.nil_append,partsF]
  cases partF x.2.data.toList <;> rfl
 | cons y l ih =>
  unfold partsF at h
  rw [List.cons_append,partsF]
  split at h
  ·cases h
  ·split at h
   ·cases h
   ·rename_i h''
    cases h
    rw [ih h'']
    cases partF x.2.data.toList <;> rfl
def versF (s:ByteArray):Except Int (List Nat):=if s.data.toList.count 46=2 then partsF (cutB s ⟨#[46]⟩ s.size 0) else .error 3
def vArr (ns:List Nat):Array Value:=#[.int .i64 ((ns.getD 0 0:Nat):Int),.int .i64 ((ns.getD 1 0:Nat):Int),.int .i64 ((ns.getD 2 0:Nat):Int)]
def versV:Except Int (List Nat)->Value
 | .ok ns=>.tuple #[.agg (vArr ns),.nilIface]
 | .error k=>.tuple #[.agg #[.int .i64 0,.int .i64 0,.int .i64 0],.iface 57 (.int .i64 k)]
theorem partF_lt {l:List UInt8} {n:Nat} (h:partF l=.ok n):n<=999:=by
 unfold partF at h
 split at h
 ·split at h
  ·cases h
  ·split at h
   ·cases h
   ·cases h;omega
 ·cases h
theorem partsF_lt:∀ {l:List (Nat × ByteArray)} {ns:List Nat},partsF l=.ok ns->∀ n ∈ ns,n<=999:=by
 intro l
 induction l with
 | nil=>intro ns h n hn;cases h;cases hn
 | cons x r ih =>
  intro ns h n hn
  unfold partsF at h
  split at h
  ·cases h
  ·rename_i h0
   split at h
   ·cases h
   ·rename_i ns' h'
    cases h
    rcases List.mem_cons.1 hn with rfl | hn
    ·exact partF_lt h0
    ·exact ih h' n hn
theorem versF_len {s:ByteArray} {ns:List Nat} (h:versF s=.ok ns):ns.length=3/\∀ n ∈ ns,n<=999:=by
 unfold versF at h
 split at h
 ·rename_i hc
  refine ⟨?_,partsF_lt h⟩
  rw [partsF_len h,cuts_count s 46 s.size 0 (by omega) (Nat.zero_le _),List.drop_zero,hc]
 ·cases h
end Go.Proofs.YtiihalknffbjpaaGreatDoor
