/- What is laid; parsePart. -/
import Derived.Test.YtiihalknffbjpaaGreatDoorSvShelf
import Derived.Stop.Asserts
import Derived.RowKitTokens
import Derived.PlainAid
import Derived.Lib.AppendIntMem
namespace Go.Proofs.YtiihalknffbjpaaGreatDoor
set_option maxHeartbeats 4000000
set_option maxRecDepth 100000
section
open Go.RowKit Go.Extern.Stop Go.Stop Go.Extern
namespace Errs
theorem zb7(t:Addr)(w:World):(ReflectliteValue.unpack (.iface 197 (.pointer (some t)))).run Tryz.prog w
  = .ok (.agg #[.pointer (some ⟨12,197,none⟩),.pointer (some ⟨w.heap.size,0,none⟩),.int .u64 150]) (w.alloc (.cells #[.pointer (some t)] 197)):=by kernel_rfl
theorem J2(a:Addr)(w:World):(ReflectliteValue.methodAny (ReflectliteValue.valueError "reflectlite.Value.Type" 0) (fun t _ _ _=>ReflectliteType.toType t) #[.agg #[.pointer (some ⟨12,197,none⟩),.pointer (some a),.int .u64 150]]).run Tryz.prog w
  = .ok (.iface 362 (.agg #[.pointer (some ⟨12,197,none⟩)])) w:=by kernel_rfl
theorem zcu(w:World):((ReflectliteType.abiMethod fun t=>(fun a:Nat=>Value.int IntKind.u8 (a:Int)) <$> Rtype.kind t) #[.pointer (some ⟨12,197,none⟩)]).run Tryz.prog w=.ok (.int .u8 22) w:=by kernel_rfl
theorem zbf(w:World):((ReflectliteType.abiMethod fun t=>(fun a:Nat=>Value.int IntKind.u8 (a:Int)) <$> Rtype.kind t) #[.pointer (some ⟨12,57,none⟩)]).run Tryz.prog w=.ok (.int .u8 2) w:=by kernel_rfl
theorem zaW(z:Sem Value)(f:TypeId->Addr->Nat->Nat->Sem Value)(v:Value)(t:TypeId)(a:Addr)(fl:Nat)(w:World)(h:(ReflectliteValue.parts v).run Tryz.prog w=.ok (some (t,a,fl)) w) :
  (ReflectliteValue.method z f #[v]).run Tryz.prog w=(f t a fl (fl%32)).run Tryz.prog w:=by
 obtain⟨F,hF,hG⟩:∃F:Option (TypeId × Addr × Nat)->Sem Value,ReflectliteValue.method z f #[v]=(ReflectliteValue.parts v >>= F)/\∀t a fl,F (some (t,a,fl))=f t a fl (fl%32):=⟨_,rfl,fun _ _ _=>rfl⟩;rw[hF];simp only[Sem.run_bind,h,Result.andThen];rw[hG]
theorem zbJ(a:Addr)(w:World):(ReflectliteValue.parts (.agg #[.pointer (some ⟨12,197,none⟩),.pointer (some a),.int .u64 150])).run Tryz.prog w=.ok (some (197,a,150)) w:=by kernel_rfl
theorem zbv(a p:Addr)(W:World)(ha:W.cell? a=some (.pointer (some p))) :
  (ReflectliteValue.method (ReflectliteValue.valueError "reflectlite.Value.IsNil" 0) ReflectliteValue.isNil #[.agg #[.pointer (some ⟨12,197,none⟩),.pointer (some a),.int .u64 150]]).run Tryz.prog W=.ok (.bool false) W:=by
 rw[zaW _ _ _ _ _ _ _ (zbJ a W)];simp[ReflectliteValue.isNil,loadVar,isAgg,underlying,Tryz.underlying197,ha,Result.andThen]
theorem za3(w:World):(ReflectliteType.method ReflectliteType.elem #[.agg #[.pointer (some ⟨12,197,none⟩)]]).run Tryz.prog w=.ok (.iface 362 (.agg #[.pointer (some ⟨12,57,none⟩)])) w:=by kernel_rfl
theorem zb0(w:World):(ReflectliteType.relation "Implements" ReflectliteType.implements_ #[.agg #[.pointer (some ⟨12,57,none⟩)],.iface 362 (.agg #[.pointer (some ⟨12,31,none⟩)])]).run Tryz.prog w=.ok (.bool true) w:=by kernel_rfl
theorem JU(v:Value)(w:World):(ReflectliteType.typeOf #[.iface 57 v]).run Tryz.prog w=.ok (.iface 362 (.agg #[.pointer (some ⟨12,57,none⟩)])) w:=by kernel_rfl
theorem zcL(w:World):(ReflectliteType.relation "AssignableTo" ReflectliteType.assignableTo #[.agg #[.pointer (some ⟨12,57,none⟩)],.iface 362 (.agg #[.pointer (some ⟨12,57,none⟩)])]).run Tryz.prog w=.ok (.bool true) w:=by kernel_rfl
theorem zaY(n:Int)(w:World):(ReflectliteValue.unpack (.iface 57 (.int .i64 n))).run Tryz.prog w
  = .ok (.agg #[.pointer (some ⟨12,57,none⟩),.pointer (some ⟨w.heap.size,0,none⟩),.int .u64 130]) (w.alloc (.cells #[.int .i64 n] 57)):=by kernel_rfl
theorem zlo(w:World):(Rtype.elem? 197).run Tryz.prog w=.ok (some 57) w:=by kernel_rfl
theorem mkE(p:Addr)(w:World):(ReflectliteValue.mk 57 p ReflectliteValue.flagAddr).run Tryz.prog w=.ok (.agg #[.pointer (some ⟨12,57,none⟩),.pointer (some p),.int .u64 386]) w:=by kernel_rfl
theorem zaB(a p:Addr)(W:World)(ha:W.cell? a=some (.pointer (some p))) :
  (ReflectliteValue.method (ReflectliteValue.valueError "reflectlite.Value.Elem" 0) ReflectliteValue.elem #[.agg #[.pointer (some ⟨12,197,none⟩),.pointer (some a),.int .u64 150]]).run Tryz.prog W
   = .ok (.agg #[.pointer (some ⟨12,57,none⟩),.pointer (some p),.int .u64 386]) W:=by
 rw[zaW _ _ _ _ _ _ _ (zbJ a W)];simp[ReflectliteValue.elem,loadVar,isAgg,underlying,Tryz.underlying197,ha,Result.andThen,zlo,mkE]
theorem zdI(a:Addr)(w:World):(ReflectliteValue.parts (.agg #[.pointer (some ⟨12,57,none⟩),.pointer (some a),.int .u64 386])).run Tryz.prog w=.ok (some (57,a,386)) w:=by kernel_rfl
theorem zhL(a:Addr)(w:World):(ReflectliteValue.parts (.agg #[.pointer (some ⟨12,57,none⟩),.pointer (some a),.int .u64 130])).run Tryz.prog w=.ok (some (57,a,130)) w:=by kernel_rfl
theorem zgG(w:World):(Rtype.directlyAssignable 57 57).run Tryz.prog w=.ok true w:=by kernel_rfl
theorem zj0(v x:Value):∃F:Option (TypeId × Addr × Nat)->Option (TypeId × Addr × Nat)->Sem Value,ReflectliteValue.set #[v,x]=(ReflectliteValue.parts v >>= fun p=>ReflectliteValue.parts x >>= fun q=>F p q) /\
  ∀a b,∃G:Value->Sem Value,F (some (57,a,386)) (some (57,b,130))=(loadVar 57 b >>= fun val=>Rtype.directlyAssignable 57 57 >>= fun d=>if d=true then (storeVar 57 a val >>= fun _=>pure (.tuple #[])) else G val):=⟨_,rfl,fun _ _=>⟨_,rfl⟩⟩
theorem zce(ta b:Addr)(n:Int)(old:Value)(W:World)(hb:W.cell? b=some (.int .i64 n))(ht:W.cell? ta=some old)(hf:W.frozen? ta=false) :
  (ReflectliteValue.set #[.agg #[.pointer (some ⟨12,57,none⟩),.pointer (some ta),.int .u64 386],.agg #[.pointer (some ⟨12,57,none⟩),.pointer (some b),.int .u64 130]]).run Tryz.prog W
   = .ok (.tuple #[]) (W.setCell ta (.int .i64 n)):=by
 obtain⟨F,hF,hG⟩:=zj0 (.agg #[.pointer (some ⟨12,57,none⟩),.pointer (some ta),.int .u64 386]) (.agg #[.pointer (some ⟨12,57,none⟩),.pointer (some b),.int .u64 130]);obtain⟨G,hG⟩:=hG ta b;rw[hF];simp only[Sem.run_bind,zdI,zhL,Result.andThen];rw[hG];simp[loadVar,isAgg,underlying,Tryz.underlying57,hb,Result.andThen,zgG,storeVar,Value.cells,storeCells,Addr.add];rw[run_store Tryz.prog W ta _ _ (by rfl)];simp[ht,hf]
end Errs
end
section
open Go.RowKit Go.Extern.Stop Go.Stop Go.Extern
namespace Errs
theorem za8(h:Value)(w:World):(Go.method 613 362 (.agg #[h]) "Kind").run Tryz.prog w=.ok (379,h) w:=by kernel_rfl
theorem zcG(h:Value)(w:World):(Go.method 613 362 (.agg #[h]) "Elem").run Tryz.prog w=.ok (392,.agg #[h]) w:=by kernel_rfl
theorem JM(h:Value)(w:World):(Go.method 613 362 (.agg #[h]) "Implements").run Tryz.prog w=.ok (393,.agg #[h]) w:=by kernel_rfl
theorem zaS(h:Value)(w:World):(Go.method 613 362 (.agg #[h]) "AssignableTo").run Tryz.prog w=.ok (390,.agg #[h]) w:=by kernel_rfl
theorem as_hit(n:Int)(t:Addr)(old:Value)(w:World)(hg:w.cell? ⟨2,0,none⟩=some (.iface 362 (.agg #[.pointer (some ⟨12,31,none⟩)])))(ht0:w.cell? t=some old)(hf0:w.frozen? t=false) :
  zC 105 #[.iface 57 (.int .i64 n),.iface 197 (.pointer (some t))] w fun ev w'=>ev=.returned (.bool true)/\w'=((((w.alloc (.cells #[.pointer (some t)] 197)).alloc (.cells #[.pointer (some ⟨12,197,none⟩),.pointer (some ⟨w.heap.size,0,none⟩),.int .u64 150] 298)).alloc (.cells #[.pointer (some ⟨12,197,none⟩),.pointer (some ⟨w.heap.size,0,none⟩),.int .u64 150] 298)).alloc (.cells #[.int .i64 n] 57)).setCell t (.int .i64 n):=by
 have h6:=@run_callFunc_extern Tryz.prog 180 _ (fun args=>ReflectliteValue.unpack (args.getD 0 (.tuple #[]))) Tryz.func180 (by kernel_rfl) (by kernel_rfl) (by kernel_rfl) (by kernel_rfl);have h7:=@run_callFunc_extern Tryz.prog 181 _ (ReflectliteValue.methodAny (ReflectliteValue.valueError "reflectlite.Value.Type" 0) (fun t _ _ _=>ReflectliteType.toType t)) Tryz.func181 (by kernel_rfl) (by kernel_rfl) (by kernel_rfl) (by kernel_rfl);have h8:=@run_callFunc_extern Tryz.prog 182 _ (ReflectliteValue.method (ReflectliteValue.valueError "reflectlite.Value.IsNil" 0) ReflectliteValue.isNil) Tryz.func182 (by kernel_rfl) (by kernel_rfl) (by kernel_rfl) (by kernel_rfl);have h27:=@run_callFunc_extern Tryz.prog 379 _ (ReflectliteType.abiMethod fun t=>do pure (.int .u8 (<-Rtype.kind t))) Tryz.func379 (by kernel_rfl) (by kernel_rfl) (by kernel_rfl) (by kernel_rfl);have h37:=@run_callFunc_extern Tryz.prog 392 _ (ReflectliteType.method ReflectliteType.elem) Tryz.func392 (by kernel_rfl) (by kernel_rfl) (by kernel_rfl) (by kernel_rfl);have h38:=@run_callFunc_extern Tryz.prog 393 _ (ReflectliteType.relation "Implements" ReflectliteType.implements_) Tryz.func393 (by kernel_rfl) (by kernel_rfl) (by kernel_rfl) (by kernel_rfl);have h10:=@run_callFunc_extern Tryz.prog 242 _ ReflectliteType.typeOf Tryz.func242 (by kernel_rfl) (by kernel_rfl) (by kernel_rfl) (by kernel_rfl);have h35:=@run_callFunc_extern Tryz.prog 390 _ (ReflectliteType.relation "AssignableTo" ReflectliteType.assignableTo) Tryz.func390 (by kernel_rfl) (by kernel_rfl) (by kernel_rfl) (by kernel_rfl);have h11:=@run_callFunc_extern Tryz.prog 243 _ (ReflectliteValue.method (ReflectliteValue.valueError "reflectlite.Value.Elem" 0) ReflectliteValue.elem) Tryz.func243 (by kernel_rfl) (by kernel_rfl) (by kernel_rfl) (by kernel_rfl);have h12:=@run_callFunc_extern Tryz.prog 244 _ ReflectliteValue.set Tryz.func244 (by kernel_rfl) (by kernel_rfl) (by kernel_rfl) (by kernel_rfl);have tO:=JU;have mA:=zaS;have a25:=zcL;have v25:=zaY;have f6:=zb7;have f7:=J2;have mK:=za8;have mE:=zcG;have mI:=JM;have k27:=zcu;have k25:=zbf;have e27:=za3;have i25:=zb0;have n8:=zbv ⟨w.heap.size,0,none⟩ t ((w.alloc (.cells #[.pointer (some t)] 197)).alloc (.cells #[.pointer (some ⟨12,197,none⟩),.pointer (some ⟨w.heap.size,0,none⟩),.int .u64 150] 298)) (by simp);have hlt:2<w.heap.size:=by
  rcases Nat.lt_or_ge 2 w.heap.size with h|h
  ·exact h
  ·simp[World.cell?,Array.getElem?_eq_none h] at hg
 have hg2:((w.alloc (.cells #[.pointer (some t)] 197)).alloc (.cells #[.pointer (some ⟨12,197,none⟩),.pointer (some ⟨w.heap.size,0,none⟩),.int .u64 150] 298)).cell? ⟨2,0,none⟩=some (.iface 362 (.agg #[.pointer (some ⟨12,31,none⟩)])):=by
  rw[World.cell?_alloc_lt _ _ ⟨2,0,none⟩ (by simp only[World.size_alloc];omega),World.cell?_alloc_lt _ _ ⟨2,0,none⟩ hlt];exact hg
 have htl:t.block<w.heap.size:=by
  rcases Nat.lt_or_ge t.block w.heap.size with h|h
  ·exact h
  ·simp[World.cell?,Array.getElem?_eq_none h] at ht0
 have el:=zaB ⟨w.heap.size,0,none⟩ t (((w.alloc (.cells #[.pointer (some t)] 197)).alloc (.cells #[.pointer (some ⟨12,197,none⟩),.pointer (some ⟨w.heap.size,0,none⟩),.int .u64 150] 298)).alloc (.cells #[.pointer (some ⟨12,197,none⟩),.pointer (some ⟨w.heap.size,0,none⟩),.int .u64 150] 298)) (by rw[World.cell?_alloc_lt _ _ ⟨w.heap.size,0,none⟩ (by simp;omega)];simp);have st:=zce t ⟨w.heap.size+1+1+1,0,none⟩ n old ((((w.alloc (.cells #[.pointer (some t)] 197)).alloc (.cells #[.pointer (some ⟨12,197,none⟩),.pointer (some ⟨w.heap.size,0,none⟩),.int .u64 150] 298)).alloc (.cells #[.pointer (some ⟨12,197,none⟩),.pointer (some ⟨w.heap.size,0,none⟩),.int .u64 150] 298)).alloc (.cells #[.int .i64 n] 57))
  (by rw[World.cell?_alloc_at _ _ _ _ (by simp)];rfl)
  (by rw[World.cell?_alloc_lt _ _ t (by simp;omega),World.cell?_alloc_lt _ _ t (by simp;omega),World.cell?_alloc_lt _ _ t (by simp;omega),World.cell?_alloc_lt _ _ t htl];exact ht0)
  (by rw[World.frozen?_alloc_old _ _ t (by simp;omega),World.frozen?_alloc_old _ _ t (by simp;omega),World.frozen?_alloc_old _ _ t (by simp;omega),World.frozen?_alloc_old _ _ t (Nat.ne_of_lt htl)];exact hf0)
 go_enter Tryz.func105,Tryz.ntmps105;go_wp2;refine wp_loop_rounds 1 ?_;rw[rounds_succ];go_wp2;go_ret;exact⟨rfl,rfl⟩
end Errs
end
section
open Go.RowKit Go.Extern.Stop Go.Stop Go.Extern
def yV(w:World):Prop:=w.cell? ⟨2,0,none⟩=some (.iface 362 (.agg #[.pointer (some ⟨12,31,none⟩)]))
theorem yV.lt{w:World}(h:yV w):2<w.heap.size:=by
 rcases Nat.lt_or_ge 2 w.heap.size with h1|h1
 ·exact h1
 ·unfold yV at h;simp[World.cell?,Array.getElem?_eq_none h1] at h
theorem yV.below{w w':World}(h:yV w)(hb:zB w w'):yV w':=(hb.cell (p:=⟨2,0,none⟩) h.lt).trans h
theorem KM(n:Int)(w:World)(hg:yV w) :
  zR 39 #[.iface 57 (.int .i64 n)] w (.int .i64 n):=by
 have H:=Errs.as_hit n ⟨w.heap.size,0,none⟩ (.int .i64 0) (w.alloc (.cells #[.int .i64 0] 57)) (hg.below (zF.alloc zN _)) (Yq _ _ _) (zba _ _ _);go_enter Tryz.func39,Tryz.ntmps39;go_wp2_with fail;refine H.mono ?_;rintro e w' ⟨rfl,hw⟩;have hc:w'.cell? ⟨w.heap.size,0,none⟩=some (.int .i64 n):=by
  rw[hw];refine World.cell?_setCell_same' _ _ _ ?_;rw[World.cell?_alloc_lt _ _ ⟨w.heap.size,0,none⟩ (by simp;omega),World.cell?_alloc_lt _ _ ⟨w.heap.size,0,none⟩ (by simp;omega),World.cell?_alloc_lt _ _ ⟨w.heap.size,0,none⟩ (by simp;omega),World.cell?_alloc_lt _ _ ⟨w.heap.size,0,none⟩ (by simp),Yq];rfl
 have hb:zB w w':=by
  rw[hw];exact(((((zF.alloc zN _).alloc (by simp) _).alloc (by simp;omega) _).alloc (by simp;omega) _).alloc (by simp;omega) _).setCell zN _
 clear H hw;go_wp2;go_ret;exact⟨rfl,hb⟩
theorem zhf(w:World):zC 39 #[.nilIface] w fun e w'=>e=.returned (.int .i64 0)/\w=w':=by
 go_enter Tryz.func39,Tryz.ntmps39;go_wp2;go_ret;exact⟨rfl,rfl⟩
end
namespace Sv
def ALL:Nat:=1000000000
abbrev zc:=Nat × Nat
def mem(l:List zc)(n:Nat):Prop:=∃s∈l,s.1<=n/\n<s.2
theorem ZO(n:Nat):¬mem [] n:=fun⟨_,h,_⟩=>by cases h
theorem mem_cons{s:zc}{l:List zc}{n:Nat}:mem (s :: l) n↔(s.1<=n/\n<s.2)\/mem l n:=by
 unfold mem;constructor
 ·rintro⟨t,ht,h⟩;rcases List.mem_cons.1 ht with rfl|ht
  ·exact Or.inl h
  ·exact Or.inr ⟨t,ht,h⟩
 ·rintro (h|⟨t,ht,h⟩)
  ·exact⟨s,List.mem_cons_self,h⟩
  ·exact⟨t,List.mem_cons_of_mem _ ht,h⟩
def qF(lo:Nat):List zc->Prop
 |[]=>True
 |s :: r=>lo<=s.1/\s.1<s.2/\s.2<=ALL/\qF (s.2+1) r
theorem qF.mono{lo hi:Nat}{l:List zc}(h:qF hi l)(hh:lo<=hi):qF lo l:=by
 cases l with
 |nil=>trivial
 |cons s r=>exact⟨Nat.le_trans hh h.1,h.2⟩
theorem qF.ge{lo n:Nat}{l:List zc}(h:qF lo l)(hm:mem l n):lo<=n:=by
 induction l generalizing lo with
 |nil=>exact absurd hm (ZO n)
 |cons s r ih =>
  rcases mem_cons.1 hm with ⟨h1,_⟩|hm
  ·exact Nat.le_trans h.1 h1
  ·have:=ih h.2.2.2 hm;have:=h.1;have:=h.2.1;omega
theorem qF.lt{lo n:Nat}{l:List zc}(h:qF lo l)(hm:mem l n):n<ALL:=by
 induction l generalizing lo with
 |nil=>exact absurd hm (ZO n)
 |cons s r ih =>
  rcases mem_cons.1 hm with ⟨_,h1⟩|hm
  ·exact Nat.lt_of_lt_of_le h1 h.2.2.1
  ·exact ih h.2.2.2 hm
def yX(e:Nat):List zc->List zc
 |[]=>if e<ALL then [(e,ALL)] else []
 |s :: r=>if e<s.1 then (e,s.1) :: yX s.2 r else yX s.2 r
theorem zkv:∀{l:List zc} {e:Nat},qF e l->qF e (yX e l):=by
 intro l
 induction l with
 |nil =>
  intro e _;unfold yX;split
  ·exact⟨Nat.le_refl _,by assumption,Nat.le_refl _,trivial⟩
  ·trivial
 |cons s r ih =>
  intro e h;obtain⟨h1,h2,h3,h4⟩:=h;have hr:=ih (h4.mono (Nat.le_succ _));unfold yX;split
  ·exact⟨Nat.le_refl _,by assumption,by simp only;omega,hr.mono (by simp only;omega)⟩
  ·exact hr.mono (by omega)
theorem zlE:∀{l:List zc} {e n:Nat},qF e l->(mem (yX e l) n↔(e<=n/\n<ALL/\¬mem l n)):=by
 intro l
 induction l with
 |nil =>
  intro e n _;unfold yX;split
  ·rw[mem_cons];simp only[ZO,or_false,not_false_eq_true,and_true]
  ·simp only[ZO,not_false_eq_true,and_true,false_iff];omega
 |cons s r ih =>
  intro e n h;obtain⟨h1,h2,h3,h4⟩:=h;have hr:=ih (n:=n) (h4.mono (Nat.le_succ s.2));have hg:mem r n->s.2+1<=n:=h4.ge;unfold yX;rw[mem_cons (s:=s)];split
  ·rw[mem_cons,hr];simp only
   by_cases hm:mem r n
   ·have:=hg hm;simp[hm];omega
   ·simp only[hm,not_false_eq_true,and_true,or_false];omega
  ·rw[hr]
   by_cases hm:mem r n
   ·simp[hm]
   ·simp only[hm,not_false_eq_true,and_true,or_false];omega
def yg:List zc->List zc->List zc
 |[],_=>[]
 |_ :: _,[]=>[]
 |s :: r,t :: q =>(if max s.1 t.1<min s.2 t.2 then [(max s.1 t.1,min s.2 t.2)] else [])++(if s.2<t.2 then yg r (t :: q) else yg (s :: r) q)
termination_by l m=>l.length+m.length
theorem zj6(l:List zc):yg l []=[]:=by cases l<;>simp[yg]
theorem zaP{lo:Nat}{c:Prop}[Decidable c]{s:zc}{r:List zc}(h1:c->lo<=s.1/\s.1<s.2/\s.2<=ALL/\qF (s.2+1) r)(h2:¬c->qF lo r):qF lo ((if c then [s] else [])++r):=by
 by_cases h:c
 ·rw[if_pos h];exact h1 h
 ·rw[if_neg h];exact h2 h
theorem zg4{n:Nat}{c:Prop}[Decidable c]{s:zc}{r:List zc}:mem ((if c then [s] else [])++r) n↔(c/\s.1<=n/\n<s.2)\/mem r n:=by
 by_cases h:c
 ·rw[if_pos h];simp only[List.cons_append,List.nil_append,h,true_and];exact mem_cons
 ·rw[if_neg h];simp[h]
theorem zgw:∀(k:Nat) {l m:List zc} {lo lo':Nat},l.length+m.length<=k->qF lo l->qF lo' m->qF (max lo lo') (yg l m):=by
 intro k
 induction k with
 |zero =>intro l m lo lo' hk _ _;obtain rfl:l=[]:=List.length_eq_zero_iff.1 (by omega);simp only[yg];trivial
 |succ k ih =>
  intro l m lo lo' hk hl hm;cases l with
  |nil=>simp only[yg];trivial
  |cons s r =>
   cases m with
   |nil=>simp only[yg];trivial
   |cons t q =>
    rw[yg];simp only[List.length_cons] at hk;have hl':=hl;have hm':=hm;obtain⟨h1,h2,h3,h4⟩:=hl;obtain⟨g1,g2,g3,g4⟩:=hm
    by_cases hlt:s.2<t.2
    ·rw[if_pos hlt];have:=ih (l:=r) (m:=t :: q) (lo:=s.2+1) (lo':=t.1) (by simp only[List.length_cons];omega) h4 ⟨Nat.le_refl _,g2,g3,g4⟩;refine zaP (fun hc=>⟨by simp only;omega,hc,by simp only;omega,this.mono (by simp only;omega)⟩) (fun hc=>this.mono (by omega))
    ·rw[if_neg hlt];have:=ih (l:=s :: r) (m:=q) (lo:=s.1) (lo':=t.2+1) (by simp only[List.length_cons];omega) ⟨Nat.le_refl _,h2,h3,h4⟩ g4;refine zaP (fun hc=>⟨by simp only;omega,hc,by simp only;omega,this.mono (by simp only;omega)⟩) (fun hc=>this.mono (by omega))
theorem zei:∀(k:Nat) {l m:List zc} {lo lo' n:Nat},l.length+m.length<=k->qF lo l->qF lo' m->(mem (yg l m) n↔mem l n/\mem m n):=by
 intro k
 induction k with
 |zero =>intro l m lo lo' n hk _ _;obtain rfl:l=[]:=List.length_eq_zero_iff.1 (by omega);simp only[yg,ZO,false_and]
 |succ k ih =>
  intro l m lo lo' n hk hl hm;cases l with
  |nil=>simp only[yg,ZO,false_and]
  |cons s r =>
   cases m with
   |nil=>simp only[yg,ZO,and_false]
   |cons t q =>
    rw[yg,zg4];simp only[List.length_cons] at hk;obtain⟨h1,h2,h3,h4⟩:=hl;obtain⟨g1,g2,g3,g4⟩:=hm;have hr:mem r n->s.2+1<=n:=h4.ge;have hq:mem q n->t.2+1<=n:=g4.ge
    by_cases hlt:s.2<t.2
    ·rw[if_pos hlt,ih (l:=r) (m:=t :: q) (lo:=s.2+1) (lo':=t.1) (by simp only[List.length_cons];omega) h4 ⟨Nat.le_refl _,g2,g3,g4⟩,mem_cons,mem_cons]
     by_cases a:mem r n<;>by_cases b:mem q n<;>simp only[a,b,or_true,or_false,and_true,true_and,false_and]<;>(try have:=hr a)<;>(try have:=hq b)<;>omega
    ·rw[if_neg hlt,ih (l:=s :: r) (m:=q) (lo:=s.1) (lo':=t.2+1) (by simp only[List.length_cons];omega) ⟨Nat.le_refl _,h2,h3,h4⟩ g4,mem_cons,mem_cons]
     by_cases a:mem r n<;>by_cases b:mem q n<;>simp only[a,b,or_true,or_false,and_true,and_false,true_and]<;>(try have:=hr a)<;>(try have:=hq b)<;>omega
abbrev Rg(l:List zc):Prop:=qF 0 l
def nt(l:List zc):List zc:=yX 0 l
def nd(l m:List zc):List zc:=yg l m
def orr(l m:List zc):List zc:=nt (nd (nt l) (nt m))
def ze(a b:Nat):List zc:=if a<b then [(a,b)] else []
def zi:List zc:=[(0,ALL)]
theorem Yt:Rg zi:=⟨Nat.le_refl _,by decide,Nat.le_refl _,trivial⟩
theorem xL:Rg []:=trivial
theorem Yc{a b:Nat}(h:b<=ALL):Rg (ze a b):=by
 unfold ze;split
 ·exact⟨Nat.zero_le _,by assumption,h,trivial⟩
 ·trivial
theorem xk{l:List zc}(h:Rg l):Rg (nt l):=zkv h
theorem ZK{l m:List zc}(h:Rg l)(h':Rg m):Rg (nd l m):=(zgw _ zN h h').mono (Nat.zero_le _)
theorem Q8{l m:List zc}(h:Rg l)(h':Rg m):Rg (orr l m):=xk (ZK (xk h) (xk h'))
theorem zlc{n:Nat}:mem zi n↔n<ALL:=by unfold zi;rw[mem_cons];simp[ZO]
theorem YS{l:List zc}{n:Nat}(h:Rg l):mem (nt l) n↔n<ALL/\¬mem l n:=by
 unfold nt;rw[zlE h];simp
theorem zbP{l m:List zc}{n:Nat}(h:Rg l)(h':Rg m):mem (nd l m) n↔mem l n/\mem m n:=zei _ zN h h'
theorem zlk{l m:List zc}{n:Nat}(h:Rg l)(h':Rg m):mem (orr l m) n↔mem l n\/mem m n:=by
 unfold orr;rw[YS (ZK (xk h) (xk h')),zbP (xk h) (xk h'),YS h,YS h'];have h1:mem l n->n<ALL:=h.lt;have h2:mem m n->n<ALL:=h'.lt
 by_cases a:mem l n<;>by_cases b:mem m n<;>by_cases c:n<ALL<;>simp_all
end Sv
section
open Go.RowKit Sv
def qK(l:List zc):List Value:=l.flatMap fun s=>[.int .i64 s.1,.int .i64 s.2]
def sp(l:List zc)(i:Nat):zc:=l.getD i (0,0)
theorem Ql(l:List zc)(i:Nat)(h:i<l.length):sp l i=l[i]:=by unfold sp;simp[List.getD_eq_getElem?_getD,List.getElem?_eq_getElem h]
theorem Xs(s:zc)(l:List zc)(i:Nat):sp (s :: l) (i+1)=sp l i:=by simp[sp]
theorem Xu(a b:List zc):qK (a++b)=qK a++qK b:=by simp[qK]
theorem zbz:∀(l:List zc) (i:Nat),i<l.length->(qK l)[i*2]?=some (.int .i64 ((sp l i).1:Int))/\(qK l)[i*2+1]?=some (.int .i64 ((sp l i).2:Int))
 |[],i,h=>by simp at h
 |n :: l,0,_=>by simp[qK,sp]
 |n :: l,i+1,h=>by
  have ih:=zbz l i (by simpa using h);rw[Xs];have e2:∀j,(qK (n :: l))[j+2]?=(qK l)[j]?:=fun j=>by
   show ([Value.int .i64 n.1,.int .i64 n.2]++qK l)[j+2]?=_;rw[List.getElem?_append_right (by simp)];simp
  rw[show (i+1)*2=i*2+2 by omega,show i*2+2+1=(i*2+1)+2 by omega,e2,e2];exact ih
structure zg(w:World)(v:Value)(l:List zc):Prop where
 form:∃a cap,v=.slice a l.length cap
 cells:∀i,i<l.length->∃g cap,v=.slice (some ⟨g,0,none⟩) l.length cap/\g<w.heap.size/\w.cell? ⟨g,i*2,none⟩=some (.int .i64 ((sp l i).1:Int))/\w.cell? ⟨g,i*2+1,none⟩=some (.int .i64 ((sp l i).2:Int))
theorem Y0(w:World):zg w (.slice none 0 0) []:=⟨⟨none,0,rfl⟩,fun i h=>by simp at h⟩
theorem zg.below{B:Nat}{w w':World}{v:Value}{l:List zc}(h:zg w v l)(hb:Below B w w')(hB:w.heap.size<=B):zg w' v l :=
 ⟨h.form,fun i hi=>by
  obtain⟨g,cap,e,hg,c0,c1⟩:=h.cells i hi;exact ⟨g,cap,e,Nat.lt_of_lt_of_le hg hb.size,(hb.cell (p:=⟨g,i * 2,none⟩) (by show g<B;omega)).trans c0,(hb.cell (p:=⟨g,i * 2 + 1,none⟩) (by show g<B;omega)).trans c1⟩⟩
theorem Q9{B:Nat}{w:World}{v:Value}{l:List zc}(h:w.ownsRow B 402 2 v l.length (qK l)):zg w v l:=by
 rcases h.2 with ⟨e,e0⟩|⟨g,cap,cur,e,hB,hg,hn,hm,hsz,htake⟩
 ·exact⟨⟨none,0,by rw[e,e0]⟩,fun i hi=>by omega⟩
 ·refine⟨⟨_,_,e⟩,fun i hi=>?_⟩;have hlt:g<w.heap.size:=(h.lt g (by rw[e];rfl)).2;obtain⟨c0,c1⟩:=zbz l i hi;have cell:∀j,j<l.length*2->w.cell? ⟨g,j,none⟩=(qK l)[j]?:=fun j hj=>by
   rw[<-htake,List.getElem?_take,if_pos (by omega)];simp[World.cell?,hg]
  exact⟨g,cap,e,hlt,(cell _ (by omega)).trans c0,(cell _ (by omega)).trans c1⟩
theorem zey:∀{l:List zc} {lo:Nat},qF lo l->lo<=ALL+1->2*l.length+lo<=ALL+1:=by
 intro l
 induction l with
 |nil=>intro lo _ h;simpa using h
 |cons s r ih =>intro lo h hlo;obtain⟨h1,h2,h3,h4⟩:=h;have:=ih h4 (by omega);simp only[List.length_cons];omega
theorem Qw{l:List zc}(h:Rg l):l.length<=500000000:=by
 have:=zey h (Nat.zero_le _);unfold ALL at this;omega
theorem zaz:(Tryz.prog.info? 402).map (fun i=>(i.zero,i.size,i.bytes))=some (some (.agg #[.int .i64 0,.int .i64 0]),2,16):=by kernel_rfl
theorem XP{B n:Nat}{w:World}{v:Value}{t:TypeId}{cs:List Value}(h:w.ownsRow B t 2 v n cs):∃a c,v=.slice a n c:=by
 rcases h.2 with ⟨e,e0⟩|⟨g,cap,cur,e,-⟩
 ·exact⟨none,0,by rw[e,e0]⟩
 ·exact⟨_,_,e⟩
theorem YH(w:World)(A B:Value)(t:TypeId):∀(j:Nat) (u:Value),[A,B][j]?=some u->(w.alloc (.cells #[A,B] t)).cell? (Addr.add ⟨w.heap.size,0,none⟩ j)=some u:=by
 intro j u h
 match j,h with
 |0,h=>simp at h;subst h;simp[Addr.add]
 |1,h=>simp at h;subst h;simp[Addr.add]
 |j+2,h=>simp at h
theorem Zq{w w':World}{row:Option Nat}(hg:w.grownBy w' row){b i:Nat}(hb:b<w.heap.size)(hne:some b≠row):w'.cell? ⟨b,i,none⟩=w.cell? ⟨b,i,none⟩:=by
 unfold World.cell?;rw[hg.block b hb hne]
theorem YE{B n:Nat}{w:World}{v:Value}{t:TypeId}{cs:List Value}(h:w.ownsRow B t 2 v n cs){b:Nat}(hb:w.heap.size<=b):some b≠v.ownBlock:=fun e=>by
 have:=(h.lt b e.symm).2;omega
theorem YX{B n b:Nat}{w:World}{v x:Value}{t:TypeId}{cs:List Value}(h:w.ownsRow B t 2 v n cs)(hb:b<B):(w.setCell ⟨b,0,none⟩ x).ownsRow B t 2 v n cs:=by
 refine⟨h.1,?_⟩;rcases h.2 with h1|⟨g,cap,cur,h1,h2,h3,h4⟩
 ·exact .inl h1
 ·exact .inr ⟨g,cap,cur,h1,h2,(Below.heap_setCell _ _ _ g (by show g≠b;omega)).trans h3,h4⟩
theorem Z1(w:World)(A:Value)(t:TypeId):(w.alloc (.cells #[A] t)).cell? ⟨w.heap.size,0,none⟩=some A:=by simp
theorem Xy(w:World)(A B:Value)(t:TypeId):(w.alloc (.cells #[A,B] t)).cell? ⟨w.heap.size,0,none⟩=some A/\(w.alloc (.cells #[A,B] t)).cell? ⟨w.heap.size,1,none⟩=some B:=⟨by simp,by simp⟩
theorem zbD(w:World)(A:Value)(t:TypeId):(w.alloc (.cells #[A] t)).frozen? ⟨w.heap.size,0,none⟩=false:=by simp
structure zaC(w W:World)(A B C:Value):Prop where
 below:zB w W
 size:W.heap.size=w.heap.size+3
 c0:W.cell? ⟨w.heap.size,0,none⟩=some A
 c1:W.cell? ⟨w.heap.size+1,0,none⟩=some B
 c2:W.cell? ⟨w.heap.size+1+1,0,none⟩=some C
 f2:W.frozen? ⟨w.heap.size+1+1,0,none⟩=false
theorem KP(w:World)(A B C:Value)(t t' t'':TypeId):zaC w (((w.alloc (.cells #[A] t)).alloc (.cells #[B] t')).alloc (.cells #[C] t'')) A B C:=by
 have s1:(w.alloc (.cells #[A] t)).heap.size=w.heap.size+1:=World.size_alloc _ _;have h1:=Z1 w A t;have h2:=Z1 (w.alloc (.cells #[A] t)) B t';have h3:=Z1 ((w.alloc (.cells #[A] t)).alloc (.cells #[B] t')) C t'';have f3:=zbD ((w.alloc (.cells #[A] t)).alloc (.cells #[B] t')) C t'';have s2:((w.alloc (.cells #[A] t)).alloc (.cells #[B] t')).heap.size=w.heap.size+1+1:=by rw[World.size_alloc,s1]
 have b1:zB w (w.alloc (.cells #[A] t)):=(Below.refl _ w).alloc zN _;have b2:Below (w.heap.size+1) (w.alloc (.cells #[A] t)) ((w.alloc (.cells #[A] t)).alloc (.cells #[B] t')):=zF.alloc (by omega) _;have b3:Below (w.heap.size+1+1) ((w.alloc (.cells #[A] t)).alloc (.cells #[B] t')) (((w.alloc (.cells #[A] t)).alloc (.cells #[B] t')).alloc (.cells #[C] t'')):=zF.alloc (by omega) _;rw[s1] at h2;rw[s2] at h3 f3;refine⟨b1.trans ((b2.mono (by omega)).trans (b3.mono (by omega))),by rw[World.size_alloc,s2],?_,?_,h3,f3⟩
 ·exact(b3.cell (p:=⟨w.heap.size,0,none⟩) (by show w.heap.size<_;omega)).trans ((b2.cell (p:=⟨w.heap.size,0,none⟩) (by show w.heap.size<_;omega)).trans h1)
 ·exact(b3.cell (p:=⟨w.heap.size+1,0,none⟩) (by show w.heap.size+1<_;omega)).trans h2
structure Ys(w W:World)(bs bt:Nat)(A T C D:Value):Prop where
 below:zB w W
 hs:w.heap.size<=bs
 ht:w.heap.size<=bt
 ls:bs<W.heap.size
 lt:bt<W.heap.size
 s0:W.cell? ⟨bs,0,none⟩=some A
 s1:W.cell? ⟨bs,1,none⟩=some T
 t0:W.cell? ⟨bt,0,none⟩=some C
 t1:W.cell? ⟨bt,1,none⟩=some D
theorem zbm(w:World)(A T C D:Value)(t t':TypeId):Ys w ((w.alloc (.cells #[A,T] t)).alloc (.cells #[C,D] t')).drew w.heap.size (w.heap.size+1) A T C D:=by
 have s1:(w.alloc (.cells #[A,T] t)).heap.size=w.heap.size+1:=World.size_alloc _ _;have s2:((w.alloc (.cells #[A,T] t)).alloc (.cells #[C,D] t')).heap.size=w.heap.size+1+1:=by rw[World.size_alloc,s1]
 have b1:zB w (w.alloc (.cells #[A,T] t)):=(Below.refl _ w).alloc zN _;have b2:Below (w.heap.size+1) (w.alloc (.cells #[A,T] t)) ((w.alloc (.cells #[A,T] t)).alloc (.cells #[C,D] t')).drew:=(zF.alloc (by omega) _).drew;have h1:=Xy w A T t;have h2:=Xy (w.alloc (.cells #[A,T] t)) C D t';rw[s1] at h2;have ls:w.heap.size<((w.alloc (.cells #[A,T] t)).alloc (.cells #[C,D] t')).drew.heap.size:=by show w.heap.size<((w.alloc (.cells #[A,T] t)).alloc (.cells #[C,D] t')).heap.size;omega
 have lt:w.heap.size+1<((w.alloc (.cells #[A,T] t)).alloc (.cells #[C,D] t')).drew.heap.size:=by show w.heap.size+1<((w.alloc (.cells #[A,T] t)).alloc (.cells #[C,D] t')).heap.size;omega
 exact⟨b1.trans (b2.mono (by omega)),Nat.le_refl _,by omega,ls,lt,(b2.cell (p:=⟨w.heap.size,0,none⟩) (by show w.heap.size<_;omega)).trans h1.1,(b2.cell (p:=⟨w.heap.size,1,none⟩) (by show w.heap.size<_;omega)).trans h1.2,h2.1,h2.2⟩
theorem zha(w:World)(A T C D:Value)(t t':TypeId):Ys w ((w.alloc (.cells #[C,D] t')).alloc (.cells #[A,T] t)).drew (w.heap.size+1) w.heap.size A T C D:=by
 have h:=zbm w C D A T t' t;exact⟨h.below,h.ht,h.hs,h.lt,h.ls,h.t0,h.t1,h.s0,h.s1⟩
theorem Ys.drewN{w W:World}{bs bt:Nat}{A T C D:Value}(h:Ys w W bs bt A T C D)(n:Nat):Ys w (W.drewN n) bs bt A T C D:=by
 induction n with
 |zero=>exact h
 |succ n ih=>exact⟨⟨ih.below.os,ih.below.tape,ih.below.output,ih.below.size,ih.below.block⟩,ih.hs,ih.ht,ih.ls,ih.lt,ih.s0,ih.s1,ih.t0,ih.t1⟩
theorem zbj{B n b:Nat}{w w':World}{v:Value}{t:TypeId}{cs:List Value}(h:w.ownsRow B t 2 v n cs)(hb:Below b w w')(hB:w.heap.size<=b):w'.ownsRow B t 2 v n cs:=by
 refine⟨h.1,?_⟩;rcases h.2 with h1|⟨g,cap,cur,h1,h2,h3,h4⟩
 ·exact .inl h1
 ·exact .inr ⟨g,cap,cur,h1,h2,(hb.block g (by have:=(h.lt g (by rw[h1];rfl)).2;omega)).trans h3,h4⟩
def Qz(w:World)(l:List zc)(e:Ending)(w':World):Prop:=∃v',e=.returned (.agg #[v'])/\zg w' v' l/\(∀g,v'.ownBlock=some g->w.heap.size<=g)/\zB w w'
theorem zg.set{w:World}{v x:Value}{l:List zc}{b:Nat}(h:zg w v l)(hn:v.ownBlock≠some b):zg (w.setCell ⟨b,0,none⟩ x) v l :=
 ⟨h.form,fun i hi=>by
  obtain⟨g,cap,e,hg,c0,c1⟩:=h.cells i hi;have hne:g≠b:=fun e'=>hn (by rw[e,e'];rfl);have hh:=Below.heap_setCell w ⟨b,0,none⟩ x g hne;refine⟨g,cap,e,Nat.lt_of_lt_of_le hg ((Below.refl 0 w).setCell (p:=⟨b,0,none⟩) (Nat.zero_le _) x).size,?_,?_⟩
  ·rw[<-c0];unfold World.cell?;rw[hh]
  ·rw [<- c1];unfold World.cell?;rw [hh]⟩
end
section
open Go.RowKit Go.Shelf Go.Sort Sv
structure Lb(w:World):Prop where
 ml:∃n,w.cell? ⟨5,0,none⟩=some (.int .i64 n)
 es:∃ev,w.cell? ⟨10,0,none⟩=some ev/\(ev=.nilIface\/∃te pe,ev=.iface te pe)
 er:∃ev,w.cell? ⟨11,0,none⟩=some ev/\(ev=.nilIface\/∃te pe,ev=.iface te pe)
 tab:Lib.TabIs Tryz.prog w "internal/strconv.uint64pow10" .u64 Lib.pow10Tab
 glob:yV w
 big:12<=w.heap.size
theorem Lb.below{w w':World}(h:Lb w)(hb:zB w w'):Lb w':=by
 have hbig:=h.big;obtain⟨n,h1⟩:=h.ml;obtain⟨e3,h3,h3'⟩:=h.es;obtain⟨e4,h4,h4'⟩:=h.er;exact⟨⟨n,(hb.cell (p:=⟨5,0,none⟩) (by show 5<_;omega)).trans h1⟩,⟨e3,(hb.cell (p:=⟨10,0,none⟩) (by show 10<_;omega)).trans h3,h3'⟩,⟨e4,(hb.cell (p:=⟨11,0,none⟩) (by show 11<_;omega)).trans h4,h4'⟩,Lib.tabBelow_of_tabIs h.tab w' hb,h.glob.below hb,Nat.le_trans hbig hb.size⟩
def q8(l:List UInt8):Except Int Nat :=
 match Lib.parseIntB 64 l with
 |.ok v=>if v<0\/Lib.itoa v≠l then .error 3 else if 999<v then .error 2 else .ok v.toNat
 |_=>.error 3
def zbO:Except Int Nat->Value
 |.ok n=>.tuple #[.int .i64 n,.nilIface]
 |.error k=>.tuple #[.int .i64 0,.iface 57 (.int .i64 k)]
theorem zb8(B:Nat)(w:World)(k:Nat)(os:Array Obj)(h:B<=w.heap.size):Below B w (grow (w.drewN k) os):=Lib.below_grow _ w h k os
theorem zcA(w:World)(t:ByteArray):zB w (Lib.bytesWorld w 5 t):=by
 have h:=((Below.refl w.heap.size w).drew).alloc zN (.cells (Lib.bytesCells w 5 t) 5);refine⟨h.os,h.tape,h.output,?_,fun k hk=>?_⟩
 ·exact Nat.le_trans h.size (by simp[Lib.bytesWorld,World.freeze])
 ·rw[<-h.block k hk];simp only[Lib.bytesWorld,World.freeze];rw[if_neg (by decide),Array.getElem?_modify,if_neg (by omega)]
theorem zaI{l:List UInt8}{v:Int}(h:Lib.parseIntB 64 l=.ok v):-9223372036854775808<=v/\v<=9223372036854775807:=by
 unfold Lib.parseIntB at h;split at h
 ·cases h
 ·simp only at h;split at h
  ·cases h
  ·cases h
  ·split at h
   ·cases h
   ·split at h
    ·cases h
    ·cases h;split<;>simp_all<;>omega
theorem JL(s:ByteArray)(w:World)(hs:s.size<=100000)(hw:Lb w)(h:∀v,Lib.parseIntB 64 s.data.toList≠.ok v) :
  zR 208 #[.string s] w (.tuple #[.int .i64 0,.iface 57 (.int .i64 3)]):=by
 have H:Hid (zC 270 #[.string s,.int .i64 10,.int .i64 64] w fun e w'=>∃N x,e=.returned (.tuple #[.int .i64 x,.iface 458 (.pointer (some ⟨N,0,none⟩))])/\zB w w'):=by
  cases hp:Lib.parseIntB 64 s.data.toList with
  |ok v=>exact absurd hp (h v)
  |«syntax» =>obtain⟨ev,h3,h3'⟩:=hw.es;exact(Tryz.strconv_ParseInt_10_at64_syntax s (by omega) hp ev w h3 h3').mono fun e w' ⟨N,he,_,_,hb⟩=>⟨N,_,he,hb⟩
  |range =>obtain⟨ev,h3,h3'⟩:=hw.er;exact(Tryz.strconv_ParseInt_10_at64_range s (by omega) hp ev w h3 h3').mono fun e w' ⟨N,he,_,_,hb⟩=>⟨N,_,he,hb⟩
 clear h hw;go_enter Tryz.func208,Tryz.ntmps208;go_wp2_with fail;refine H.out.mono ?_;rintro e w1 ⟨N,x,rfl,hb⟩;have HB:=zH hb;clear hb H;go_wp2;go_ret2;exact⟨rfl,HB.out⟩
theorem ziT(s:ByteArray)(w:World)(hs:s.size<=100000)(hw:Lb w)(v:Int)(h:Lib.parseIntB 64 s.data.toList=.ok v) :
  zR 208 #[.string s] w (zbO (if v<0\/Lib.itoa v≠s.data.toList then .error 3 else if 999<v then .error 2 else .ok v.toNat)):=by
 obtain⟨r0,r1⟩:=zaI h;have H:Hid (zR 270 #[.string s,.int .i64 10,.int .i64 64] w (.tuple #[.int .i64 v,.nilIface])):=(Tryz.strconv_ParseInt_10_at64_ok s (by omega) v h w).mono fun e w' ⟨he,hw'⟩=>by
  refine⟨he,?_⟩;rcases hw' with rfl|⟨t,rfl⟩
  ·exact Below.refl _ _
  ·exact zcA w t
 have HF:Hid (∀W,zB w W->zR 271 #[.int .i64 v,.int .i64 10] W (.string ⟨(Lib.itoa v).toArray⟩)):=fun W hb=>(Tryz.strconv_FormatInt_10 v r0 r1 W (hw.below hb).tab).mono fun e w' ⟨he,k,os,hw'⟩=>⟨he,hw'▸zb8 _ W k os zN⟩;clear h hw
 by_cases hneg:v<0
 ·rw[if_pos (Or.inl hneg)];go_enter Tryz.func208,Tryz.ntmps208;go_wp2_with fail;refine H.out.mono ?_;rintro e w1 ⟨rfl,hb⟩;have HB:=zH hb;clear hb H;go_wp2;go_ret2;exact⟨rfl,HB.out⟩
 ·generalize Lib.itoa v=l at *
  by_cases hl:l=s.data.toList
  ·have heq:(l==s.toList)=true:=by rw[ByteArray.toList_eq,hl];simp
   rw[if_neg (by rintro (h|h);exact hneg h;exact h hl)];clear hl
   by_cases hbig:999<v
   ·rw[if_pos hbig];go_enter Tryz.func208,Tryz.ntmps208;go_wp2_with fail;refine H.out.mono ?_;rintro e w1 ⟨rfl,hb⟩;have H2:=zH (HF.out _ hb);have HB:=zH hb;clear hb H HF;go_wp2_with fail;refine H2.out.mono ?_;rintro e w2 ⟨rfl,hb2⟩;have HB2:Hid (zB w w2):=zT HB.out hb2;clear hb2 H2 HB;go_wp2;go_ret2;exact⟨rfl,HB2.out⟩
   ·rw[if_neg hbig];have hv:((v.toNat:Nat):Int)=v:=by omega
    go_enter Tryz.func208,Tryz.ntmps208;go_wp2_with fail;refine H.out.mono ?_;rintro e w1 ⟨rfl,hb⟩;have H2:=zH (HF.out _ hb);have HB:=zH hb;have HV:=zH hv;clear hb H HF hv;go_wp2_with fail;refine H2.out.mono ?_;rintro e w2 ⟨rfl,hb2⟩;have HB2:Hid (zB w w2):=zT HB.out hb2;clear hb2 H2 HB;go_wp2;go_ret2;exact⟨(show Ending.returned (.tuple #[.int .i64 v,.nilIface])=.returned (.tuple #[.int .i64 ((v.toNat:Nat):Int),.nilIface]) by rw[HV.out]),HB2.out⟩
  ·have heq:(l==s.toList)=false:=by rw[ByteArray.toList_eq];simpa using hl
   rw[if_pos (Or.inr hl)];clear hl;go_enter Tryz.func208,Tryz.ntmps208;go_wp2_with fail;refine H.out.mono ?_;rintro e w1 ⟨rfl,hb⟩;have H2:=zH (HF.out _ hb);have HB:=zH hb;clear hb H HF;go_wp2_with fail;refine H2.out.mono ?_;rintro e w2 ⟨rfl,hb2⟩;have HB2:Hid (zB w w2):=zT HB.out hb2;clear hb2 H2 HB;go_wp2;go_ret2;exact⟨rfl,HB2.out⟩
theorem zeh(s:ByteArray)(w:World)(hs:s.size<=100000)(hw:Lb w) :
  zR 208 #[.string s] w (zbO (q8 s.data.toList)):=by
 cases h:Lib.parseIntB 64 s.data.toList with
 |ok v=>unfold q8;rw[h];exact ziT s w hs hw v h
 |«syntax»=>unfold q8;rw[h];exact JL s w hs hw (fun v e=>by rw[h] at e;cases e)
 |range=>unfold q8;rw[h];exact JL s w hs hw (fun v e=>by rw[h] at e;cases e)
end
end Go.Proofs.YtiihalknffbjpaaGreatDoor
