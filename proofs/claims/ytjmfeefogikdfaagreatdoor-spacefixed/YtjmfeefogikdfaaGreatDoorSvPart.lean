/- What is laid; parsePart. -/
import Derived.Test.YtjmfeefogikdfaaGreatDoorPfSides
import Derived.Stop.Asserts
import Derived.RowKitTokens
import Derived.PlainAid
import Derived.Lib.AppendIntMem
namespace Go.Proofs.YtjmfeefogikdfaaGreatDoor
set_option maxHeartbeats 4000000
set_option maxRecDepth 100000
section
open Go.RowKit Go.Deep
def Yh(c:List Int):List Int × Bool:=if qu (zk c)=true then ([],true) else (qi (zk c),false)
def zlT(B:Nat)(r:List Int × Bool)(e:Ending)(w':World):Prop:=∃a cap,e=.returned (.tuple #[.slice a r.1.length cap,.bool r.2])/\w'.ownsRow B 3 1 (.slice a r.1.length cap) r.1.length (icells r.1)
theorem zdq(c:List Int)(a:Option Addr)(cap:Nat)(w:World)(hI:qJ w a c)(hm:c.length<=9223372036854775807) :
  zC 125 #[.slice a c.length cap] w fun e w'=>zlT w.heap.size (Yh c) e w'/\zB w w':=by
 have HS:=zH (zlo c a cap w hI hm);have hsm:=zaX (c);have HF:Hid (Yh c=if qu (zk c)=true then ([],true) else (qi (zk c),false)):=rfl;generalize zk c=s at *;have HAL:Hid (∀W:World,zR 165 #[.agg #[.int .u64 s.1,.int .u64 s.2]] W (.bool (qu s))):=fun W=>zmp s hsm W;have HCL:Hid (∀W:World,zC 166 #[.agg #[.int .u64 s.1,.int .u64 s.2]] W fun e w'=>zcC W.heap.size (qi s) e w'/\zB W w'):=fun W=>zgR s hsm W;clear hI hsm;go_enter Tryz.func125,Tryz.ntmps125;go_wp2_with fail;refine HS.out.mono ?_;rintro e w1 ⟨rfl,hb1⟩;clear HS;unfold Qa;have HB2:Hid (zB w (w1.alloc (.cells #[.int .u64 s.1,.int .u64 s.2] 270))):=zL hb1;have HK:=zH (Blk.new w1 270 #[.int .u64 s.1,.int .u64 s.2]);clear hb1;go_wp2_with fail;refine(HAL.out _).mono ?_;rintro e w2 ⟨rfl,hb2⟩;have HB3:Hid (zB w w2):=zT HB2.out hb2;have hk2:=HK.out.below hb2 HK.out.lt;have k0:=hk2.cell 0;have k1:=hk2.cell 1;simp at k0 k1;clear hb2 hk2 HAL HK HB2;cases hal:qu s with
 |true =>rw[hal,if_pos rfl] at HF;clear hal;go_wp2;go_ret2;exact⟨⟨none,0,by rw[HF.out];rfl,by rw[HF.out];exact World.ownsRow_nil _ _ _ _⟩,HB3.out⟩
 |false =>rw[hal,if_neg (by simp)] at HF;clear hal;go_wp2_with fail;refine(HCL.out _).mono ?_;rintro e w3 ⟨⟨ra,rc,rfl,hrow⟩,hb3⟩;have HB4:Hid (zB w w3):=zT HB3.out hb3;have HR:=zH (ownsRow_base hrow HB3.out.size);clear hb3 hrow HCL;go_wp2;go_ret2;exact⟨⟨ra,rc,by rw[HF.out];rfl,by rw[HF.out];exact HR.out⟩,HB4.out⟩
end
section
open Go.RowKit Go.Extern.Stop Go.Stop Go.Extern
namespace Errs
theorem zbT(t:Addr)(w:World):(ReflectliteValue.unpack (.iface 162 (.pointer (some t)))).run Tryz.prog w
  = .ok (.agg #[.pointer (some ⟨10,162,none⟩),.pointer (some ⟨w.heap.size,0,none⟩),.int .u64 150]) (w.alloc (.cells #[.pointer (some t)] 162)):=by kernel_rfl
theorem zbq(a:Addr)(w:World):(ReflectliteValue.methodAny (ReflectliteValue.valueError "reflectlite.Value.Type" 0) (fun t _ _ _=>ReflectliteType.toType t) #[.agg #[.pointer (some ⟨10,162,none⟩),.pointer (some a),.int .u64 150]]).run Tryz.prog w
  = .ok (.iface 247 (.agg #[.pointer (some ⟨10,162,none⟩)])) w:=by kernel_rfl
theorem zck(w:World):((ReflectliteType.abiMethod fun t=>(fun a:Nat=>Value.int IntKind.u8 (a:Int)) <$> Rtype.kind t) #[.pointer (some ⟨10,162,none⟩)]).run Tryz.prog w=.ok (.int .u8 22) w:=by kernel_rfl
theorem zb6(w:World):((ReflectliteType.abiMethod fun t=>(fun a:Nat=>Value.int IntKind.u8 (a:Int)) <$> Rtype.kind t) #[.pointer (some ⟨10,76,none⟩)]).run Tryz.prog w=.ok (.int .u8 2) w:=by kernel_rfl
theorem ze5(z:Sem Value)(f:TypeId->Addr->Nat->Nat->Sem Value)(v:Value)(t:TypeId)(a:Addr)(fl:Nat)(w:World)(h:(ReflectliteValue.parts v).run Tryz.prog w=.ok (some (t,a,fl)) w) :
  (ReflectliteValue.method z f #[v]).run Tryz.prog w=(f t a fl (fl%32)).run Tryz.prog w:=by
 obtain⟨F,hF,hG⟩:∃F:Option (TypeId × Addr × Nat)->Sem Value,ReflectliteValue.method z f #[v]=(ReflectliteValue.parts v >>= F)/\∀t a fl,F (some (t,a,fl))=f t a fl (fl%32):=⟨_,rfl,fun _ _ _=>rfl⟩;rw[hF];simp only[Sem.run_bind,h,Result.andThen];rw[hG]
theorem zcR(a:Addr)(w:World):(ReflectliteValue.parts (.agg #[.pointer (some ⟨10,162,none⟩),.pointer (some a),.int .u64 150])).run Tryz.prog w=.ok (some (162,a,150)) w:=by kernel_rfl
theorem zdc(a p:Addr)(W:World)(ha:W.cell? a=some (.pointer (some p))) :
  (ReflectliteValue.method (ReflectliteValue.valueError "reflectlite.Value.IsNil" 0) ReflectliteValue.isNil #[.agg #[.pointer (some ⟨10,162,none⟩),.pointer (some a),.int .u64 150]]).run Tryz.prog W=.ok (.bool false) W:=by
 rw[ze5 _ _ _ _ _ _ _ (zcR a W)];simp[ReflectliteValue.isNil,loadVar,isAgg,underlying,Tryz.underlying162,ha,Result.andThen]
theorem zdw(w:World):(ReflectliteType.method ReflectliteType.elem #[.agg #[.pointer (some ⟨10,162,none⟩)]]).run Tryz.prog w=.ok (.iface 247 (.agg #[.pointer (some ⟨10,76,none⟩)])) w:=by kernel_rfl
theorem ze6(w:World):(ReflectliteType.relation "Implements" ReflectliteType.implements_ #[.agg #[.pointer (some ⟨10,76,none⟩)],.iface 247 (.agg #[.pointer (some ⟨10,33,none⟩)])]).run Tryz.prog w=.ok (.bool true) w:=by kernel_rfl
theorem zbl(v:Value)(w:World):(ReflectliteType.typeOf #[.iface 76 v]).run Tryz.prog w=.ok (.iface 247 (.agg #[.pointer (some ⟨10,76,none⟩)])) w:=by kernel_rfl
theorem zcB(w:World):(ReflectliteType.relation "AssignableTo" ReflectliteType.assignableTo #[.agg #[.pointer (some ⟨10,76,none⟩)],.iface 247 (.agg #[.pointer (some ⟨10,76,none⟩)])]).run Tryz.prog w=.ok (.bool true) w:=by kernel_rfl
theorem zeJ(n:Int)(w:World):(ReflectliteValue.unpack (.iface 76 (.int .i64 n))).run Tryz.prog w
  = .ok (.agg #[.pointer (some ⟨10,76,none⟩),.pointer (some ⟨w.heap.size,0,none⟩),.int .u64 130]) (w.alloc (.cells #[.int .i64 n] 76)):=by kernel_rfl
theorem zkz(w:World):(Rtype.elem? 162).run Tryz.prog w=.ok (some 76) w:=by kernel_rfl
theorem mkE(p:Addr)(w:World):(ReflectliteValue.mk 76 p ReflectliteValue.flagAddr).run Tryz.prog w=.ok (.agg #[.pointer (some ⟨10,76,none⟩),.pointer (some p),.int .u64 386]) w:=by kernel_rfl
theorem zdD(a p:Addr)(W:World)(ha:W.cell? a=some (.pointer (some p))) :
  (ReflectliteValue.method (ReflectliteValue.valueError "reflectlite.Value.Elem" 0) ReflectliteValue.elem #[.agg #[.pointer (some ⟨10,162,none⟩),.pointer (some a),.int .u64 150]]).run Tryz.prog W
   = .ok (.agg #[.pointer (some ⟨10,76,none⟩),.pointer (some p),.int .u64 386]) W:=by
 rw[ze5 _ _ _ _ _ _ _ (zcR a W)];simp[ReflectliteValue.elem,loadVar,isAgg,underlying,Tryz.underlying162,ha,Result.andThen,zkz,mkE]
theorem zlz(a:Addr)(w:World):(ReflectliteValue.parts (.agg #[.pointer (some ⟨10,76,none⟩),.pointer (some a),.int .u64 386])).run Tryz.prog w=.ok (some (76,a,386)) w:=by kernel_rfl
theorem zl4(a:Addr)(w:World):(ReflectliteValue.parts (.agg #[.pointer (some ⟨10,76,none⟩),.pointer (some a),.int .u64 130])).run Tryz.prog w=.ok (some (76,a,130)) w:=by kernel_rfl
theorem zlD(w:World):(Rtype.directlyAssignable 76 76).run Tryz.prog w=.ok true w:=by kernel_rfl
theorem zj5(v x:Value):∃F:Option (TypeId × Addr × Nat)->Option (TypeId × Addr × Nat)->Sem Value,ReflectliteValue.set #[v,x]=(ReflectliteValue.parts v >>= fun p=>ReflectliteValue.parts x >>= fun q=>F p q) /\
  ∀a b,∃G:Value->Sem Value,F (some (76,a,386)) (some (76,b,130))=(loadVar 76 b >>= fun val=>Rtype.directlyAssignable 76 76 >>= fun d=>if d=true then (storeVar 76 a val >>= fun _=>pure (.tuple #[])) else G val):=⟨_,rfl,fun _ _=>⟨_,rfl⟩⟩
theorem zbJ(ta b:Addr)(n:Int)(old:Value)(W:World)(hb:W.cell? b=some (.int .i64 n))(ht:W.cell? ta=some old)(hf:W.frozen? ta=false) :
  (ReflectliteValue.set #[.agg #[.pointer (some ⟨10,76,none⟩),.pointer (some ta),.int .u64 386],.agg #[.pointer (some ⟨10,76,none⟩),.pointer (some b),.int .u64 130]]).run Tryz.prog W
   = .ok (.tuple #[]) (W.setCell ta (.int .i64 n)):=by
 obtain⟨F,hF,hG⟩:=zj5 (.agg #[.pointer (some ⟨10,76,none⟩),.pointer (some ta),.int .u64 386]) (.agg #[.pointer (some ⟨10,76,none⟩),.pointer (some b),.int .u64 130]);obtain⟨G,hG⟩:=hG ta b;rw[hF];simp only[Sem.run_bind,zlz,zl4,Result.andThen];rw[hG];simp[loadVar,isAgg,underlying,Tryz.underlying76,hb,Result.andThen,zlD,storeVar,Value.cells,storeCells,Addr.add];rw[run_store Tryz.prog W ta _ _ (by rfl)];simp[ht,hf]
end Errs
end
section
open Go.RowKit Go.Extern.Stop Go.Stop Go.Extern
namespace Errs
theorem zem(h:Value)(w:World):(Go.method 470 247 (.agg #[h]) "Kind").run Tryz.prog w=.ok (247,h) w:=by kernel_rfl
theorem zdG(h:Value)(w:World):(Go.method 470 247 (.agg #[h]) "Elem").run Tryz.prog w=.ok (263,.agg #[h]) w:=by kernel_rfl
theorem zce(h:Value)(w:World):(Go.method 470 247 (.agg #[h]) "Implements").run Tryz.prog w=.ok (264,.agg #[h]) w:=by kernel_rfl
theorem za2(h:Value)(w:World):(Go.method 470 247 (.agg #[h]) "AssignableTo").run Tryz.prog w=.ok (261,.agg #[h]) w:=by kernel_rfl
theorem as_hit(n:Int)(t:Addr)(old:Value)(w:World)(hg:w.cell? ⟨1,0,none⟩=some (.iface 247 (.agg #[.pointer (some ⟨10,33,none⟩)])))(ht0:w.cell? t=some old)(hf0:w.frozen? t=false) :
  zC 71 #[.iface 76 (.int .i64 n),.iface 162 (.pointer (some t))] w fun ev w'=>ev=.returned (.bool true)/\w'=((((w.alloc (.cells #[.pointer (some t)] 162)).alloc (.cells #[.pointer (some ⟨10,162,none⟩),.pointer (some ⟨w.heap.size,0,none⟩),.int .u64 150] 198)).alloc (.cells #[.pointer (some ⟨10,162,none⟩),.pointer (some ⟨w.heap.size,0,none⟩),.int .u64 150] 198)).alloc (.cells #[.int .i64 n] 76)).setCell t (.int .i64 n):=by
 have h6:=@run_callFunc_extern Tryz.prog 103 _ (fun args=>ReflectliteValue.unpack (args.getD 0 (.tuple #[]))) Tryz.func103 (by kernel_rfl) (by kernel_rfl) (by kernel_rfl) (by kernel_rfl);have h7:=@run_callFunc_extern Tryz.prog 104 _ (ReflectliteValue.methodAny (ReflectliteValue.valueError "reflectlite.Value.Type" 0) (fun t _ _ _=>ReflectliteType.toType t)) Tryz.func104 (by kernel_rfl) (by kernel_rfl) (by kernel_rfl) (by kernel_rfl);have h8:=@run_callFunc_extern Tryz.prog 105 _ (ReflectliteValue.method (ReflectliteValue.valueError "reflectlite.Value.IsNil" 0) ReflectliteValue.isNil) Tryz.func105 (by kernel_rfl) (by kernel_rfl) (by kernel_rfl) (by kernel_rfl);have h27:=@run_callFunc_extern Tryz.prog 247 _ (ReflectliteType.abiMethod fun t=>do pure (.int .u8 (<-Rtype.kind t))) Tryz.func247 (by kernel_rfl) (by kernel_rfl) (by kernel_rfl) (by kernel_rfl);have h37:=@run_callFunc_extern Tryz.prog 263 _ (ReflectliteType.method ReflectliteType.elem) Tryz.func263 (by kernel_rfl) (by kernel_rfl) (by kernel_rfl) (by kernel_rfl);have h38:=@run_callFunc_extern Tryz.prog 264 _ (ReflectliteType.relation "Implements" ReflectliteType.implements_) Tryz.func264 (by kernel_rfl) (by kernel_rfl) (by kernel_rfl) (by kernel_rfl);have h10:=@run_callFunc_extern Tryz.prog 147 _ ReflectliteType.typeOf Tryz.func147 (by kernel_rfl) (by kernel_rfl) (by kernel_rfl) (by kernel_rfl);have h35:=@run_callFunc_extern Tryz.prog 261 _ (ReflectliteType.relation "AssignableTo" ReflectliteType.assignableTo) Tryz.func261 (by kernel_rfl) (by kernel_rfl) (by kernel_rfl) (by kernel_rfl);have h11:=@run_callFunc_extern Tryz.prog 148 _ (ReflectliteValue.method (ReflectliteValue.valueError "reflectlite.Value.Elem" 0) ReflectliteValue.elem) Tryz.func148 (by kernel_rfl) (by kernel_rfl) (by kernel_rfl) (by kernel_rfl);have h12:=@run_callFunc_extern Tryz.prog 149 _ ReflectliteValue.set Tryz.func149 (by kernel_rfl) (by kernel_rfl) (by kernel_rfl) (by kernel_rfl);have tO:=zbl;have mA:=za2;have a25:=zcB;have v25:=zeJ;have f6:=zbT;have f7:=zbq;have mK:=zem;have mE:=zdG;have mI:=zce;have k27:=zck;have k25:=zb6;have e27:=zdw;have i25:=ze6;have n8:=zdc ⟨w.heap.size,0,none⟩ t ((w.alloc (.cells #[.pointer (some t)] 162)).alloc (.cells #[.pointer (some ⟨10,162,none⟩),.pointer (some ⟨w.heap.size,0,none⟩),.int .u64 150] 198)) (by simp);have hlt:1<w.heap.size:=by
  rcases Nat.lt_or_ge 1 w.heap.size with h|h
  ·exact h
  ·simp[World.cell?,Array.getElem?_eq_none h] at hg
 have hg2:((w.alloc (.cells #[.pointer (some t)] 162)).alloc (.cells #[.pointer (some ⟨10,162,none⟩),.pointer (some ⟨w.heap.size,0,none⟩),.int .u64 150] 198)).cell? ⟨1,0,none⟩=some (.iface 247 (.agg #[.pointer (some ⟨10,33,none⟩)])):=by
  rw[World.cell?_alloc_lt _ _ ⟨1,0,none⟩ (by simp only[World.size_alloc];omega),World.cell?_alloc_lt _ _ ⟨1,0,none⟩ hlt];exact hg
 have htl:t.block<w.heap.size:=by
  rcases Nat.lt_or_ge t.block w.heap.size with h|h
  ·exact h
  ·simp[World.cell?,Array.getElem?_eq_none h] at ht0
 have el:=zdD ⟨w.heap.size,0,none⟩ t (((w.alloc (.cells #[.pointer (some t)] 162)).alloc (.cells #[.pointer (some ⟨10,162,none⟩),.pointer (some ⟨w.heap.size,0,none⟩),.int .u64 150] 198)).alloc (.cells #[.pointer (some ⟨10,162,none⟩),.pointer (some ⟨w.heap.size,0,none⟩),.int .u64 150] 198)) (by rw[World.cell?_alloc_lt _ _ ⟨w.heap.size,0,none⟩ (by simp;omega)];simp);have st:=zbJ t ⟨w.heap.size+1+1+1,0,none⟩ n old ((((w.alloc (.cells #[.pointer (some t)] 162)).alloc (.cells #[.pointer (some ⟨10,162,none⟩),.pointer (some ⟨w.heap.size,0,none⟩),.int .u64 150] 198)).alloc (.cells #[.pointer (some ⟨10,162,none⟩),.pointer (some ⟨w.heap.size,0,none⟩),.int .u64 150] 198)).alloc (.cells #[.int .i64 n] 76))
  (by rw[World.cell?_alloc_at _ _ _ _ (by simp)];rfl)
  (by rw[World.cell?_alloc_lt _ _ t (by simp;omega),World.cell?_alloc_lt _ _ t (by simp;omega),World.cell?_alloc_lt _ _ t (by simp;omega),World.cell?_alloc_lt _ _ t htl];exact ht0)
  (by rw[World.frozen?_alloc_old _ _ t (by simp;omega),World.frozen?_alloc_old _ _ t (by simp;omega),World.frozen?_alloc_old _ _ t (by simp;omega),World.frozen?_alloc_old _ _ t (Nat.ne_of_lt htl)];exact hf0)
 go_enter Tryz.func71,Tryz.ntmps71;go_wp2;refine wp_loop_rounds 1 ?_;rw[rounds_succ];go_wp2;go_ret;exact⟨rfl,rfl⟩
end Errs
end
section
open Go.RowKit Go.Extern.Stop Go.Stop Go.Extern
def Zd(w:World):Prop:=w.cell? ⟨1,0,none⟩=some (.iface 247 (.agg #[.pointer (some ⟨10,33,none⟩)]))
theorem Zd.lt{w:World}(h:Zd w):1<w.heap.size:=by
 rcases Nat.lt_or_ge 1 w.heap.size with h1|h1
 ·exact h1
 ·unfold Zd at h;simp[World.cell?,Array.getElem?_eq_none h1] at h
theorem Zd.below{w w':World}(h:Zd w)(hb:zB w w'):Zd w':=(hb.cell (p:=⟨1,0,none⟩) h.lt).trans h
theorem za4(n:Int)(w:World)(hg:Zd w) :
  zR 32 #[.iface 76 (.int .i64 n)] w (.int .i64 n):=by
 have H:=Errs.as_hit n ⟨w.heap.size,0,none⟩ (.int .i64 0) (w.alloc (.cells #[.int .i64 0] 76)) (hg.below (zF.alloc zN _)) (Z5 _ _ _) (Xe _ _ _);go_enter Tryz.func32,Tryz.ntmps32;go_wp2_with fail;refine H.mono ?_;rintro e w' ⟨rfl,hw⟩;have hc:w'.cell? ⟨w.heap.size,0,none⟩=some (.int .i64 n):=by
  rw[hw];refine World.cell?_setCell_same' _ _ _ ?_;rw[World.cell?_alloc_lt _ _ ⟨w.heap.size,0,none⟩ (by simp;omega),World.cell?_alloc_lt _ _ ⟨w.heap.size,0,none⟩ (by simp;omega),World.cell?_alloc_lt _ _ ⟨w.heap.size,0,none⟩ (by simp;omega),World.cell?_alloc_lt _ _ ⟨w.heap.size,0,none⟩ (by simp),Z5];rfl
 have hb:zB w w':=by
  rw[hw];exact(((((zF.alloc zN _).alloc (by simp) _).alloc (by simp;omega) _).alloc (by simp;omega) _).alloc (by simp;omega) _).setCell zN _
 clear H hw;go_wp2;go_ret;exact⟨rfl,hb⟩
end
namespace Sv
def ALL:Nat:=1000000000
abbrev zh:=Nat × Nat
def mem(l:List zh)(n:Nat):Prop:=∃s∈l,s.1<=n/\n<s.2
theorem zak(n:Nat):¬mem [] n:=fun⟨_,h,_⟩=>by cases h
theorem mem_cons{s:zh}{l:List zh}{n:Nat}:mem (s :: l) n↔(s.1<=n/\n<s.2)\/mem l n:=by
 unfold mem;constructor
 ·rintro⟨t,ht,h⟩;rcases List.mem_cons.1 ht with rfl|ht
  ·exact Or.inl h
  ·exact Or.inr ⟨t,ht,h⟩
 ·rintro (h|⟨t,ht,h⟩)
  ·exact⟨s,List.mem_cons_self,h⟩
  ·exact⟨t,List.mem_cons_of_mem _ ht,h⟩
def yh(lo:Nat):List zh->Prop
 |[]=>True
 |s :: r=>lo<=s.1/\s.1<s.2/\s.2<=ALL/\yh (s.2+1) r
theorem yh.mono{lo hi:Nat}{l:List zh}(h:yh hi l)(hh:lo<=hi):yh lo l:=by
 cases l with
 |nil=>trivial
 |cons s r=>exact⟨Nat.le_trans hh h.1,h.2⟩
theorem yh.ge{lo n:Nat}{l:List zh}(h:yh lo l)(hm:mem l n):lo<=n:=by
 induction l generalizing lo with
 |nil=>exact absurd hm (zak n)
 |cons s r ih =>
  rcases mem_cons.1 hm with ⟨h1,_⟩|hm
  ·exact Nat.le_trans h.1 h1
  ·have:=ih h.2.2.2 hm;have:=h.1;have:=h.2.1;omega
theorem yh.lt{lo n:Nat}{l:List zh}(h:yh lo l)(hm:mem l n):n<ALL:=by
 induction l generalizing lo with
 |nil=>exact absurd hm (zak n)
 |cons s r ih =>
  rcases mem_cons.1 hm with ⟨_,h1⟩|hm
  ·exact Nat.lt_of_lt_of_le h1 h.2.2.1
  ·exact ih h.2.2.2 hm
def xF(e:Nat):List zh->List zh
 |[]=>if e<ALL then [(e,ALL)] else []
 |s :: r=>if e<s.1 then (e,s.1) :: xF s.2 r else xF s.2 r
theorem znd:∀{l:List zh} {e:Nat},yh e l->yh e (xF e l):=by
 intro l
 induction l with
 |nil =>
  intro e _;unfold xF;split
  ·exact⟨Nat.le_refl _,by assumption,Nat.le_refl _,trivial⟩
  ·trivial
 |cons s r ih =>
  intro e h;obtain⟨h1,h2,h3,h4⟩:=h;have hr:=ih (h4.mono (Nat.le_succ _));unfold xF;split
  ·exact⟨Nat.le_refl _,by assumption,by simp only;omega,hr.mono (by simp only;omega)⟩
  ·exact hr.mono (by omega)
def xh:List zh->List zh->List zh
 |[],_=>[]
 |_ :: _,[]=>[]
 |s :: r,t :: q =>(if max s.1 t.1<min s.2 t.2 then [(max s.1 t.1,min s.2 t.2)] else [])++(if s.2<t.2 then xh r (t :: q) else xh (s :: r) q)
termination_by l m=>l.length+m.length
theorem zmU(l:List zh):xh l []=[]:=by cases l<;>simp[xh]
theorem zbR{lo:Nat}{c:Prop}[Decidable c]{s:zh}{r:List zh}(h1:c->lo<=s.1/\s.1<s.2/\s.2<=ALL/\yh (s.2+1) r)(h2:¬c->yh lo r):yh lo ((if c then [s] else [])++r):=by
 by_cases h:c
 ·rw[if_pos h];exact h1 h
 ·rw[if_neg h];exact h2 h
theorem zgJ:∀(k:Nat) {l m:List zh} {lo lo':Nat},l.length+m.length<=k->yh lo l->yh lo' m->yh (max lo lo') (xh l m):=by
 intro k
 induction k with
 |zero =>intro l m lo lo' hk _ _;obtain rfl:l=[]:=List.length_eq_zero_iff.1 (by omega);simp only[xh];trivial
 |succ k ih =>
  intro l m lo lo' hk hl hm;cases l with
  |nil=>simp only[xh];trivial
  |cons s r =>
   cases m with
   |nil=>simp only[xh];trivial
   |cons t q =>
    rw[xh];simp only[List.length_cons] at hk;have hl':=hl;have hm':=hm;obtain⟨h1,h2,h3,h4⟩:=hl;obtain⟨g1,g2,g3,g4⟩:=hm
    by_cases hlt:s.2<t.2
    ·rw[if_pos hlt];have:=ih (l:=r) (m:=t :: q) (lo:=s.2+1) (lo':=t.1) (by simp only[List.length_cons];omega) h4 ⟨Nat.le_refl _,g2,g3,g4⟩;refine zbR (fun hc=>⟨by simp only;omega,hc,by simp only;omega,this.mono (by simp only;omega)⟩) (fun hc=>this.mono (by omega))
    ·rw[if_neg hlt];have:=ih (l:=s :: r) (m:=q) (lo:=s.1) (lo':=t.2+1) (by simp only[List.length_cons];omega) ⟨Nat.le_refl _,h2,h3,h4⟩ g4;refine zbR (fun hc=>⟨by simp only;omega,hc,by simp only;omega,this.mono (by simp only;omega)⟩) (fun hc=>this.mono (by omega))
abbrev Rg(l:List zh):Prop:=yh 0 l
def nt(l:List zh):List zh:=xF 0 l
def nd(l m:List zh):List zh:=xh l m
def orr(l m:List zh):List zh:=nt (nd (nt l) (nt m))
def zw(a b:Nat):List zh:=if a<b then [(a,b)] else []
def zq:List zh:=[(0,ALL)]
theorem KC:Rg zq:=⟨Nat.le_refl _,by decide,Nat.le_refl _,trivial⟩
theorem KB:Rg []:=trivial
theorem Kq{a b:Nat}(h:b<=ALL):Rg (zw a b):=by
 unfold zw;split
 ·exact⟨Nat.zero_le _,by assumption,h,trivial⟩
 ·trivial
theorem ZO{l:List zh}(h:Rg l):Rg (nt l):=znd h
theorem YD{l m:List zh}(h:Rg l)(h':Rg m):Rg (nd l m):=(zgJ _ zN h h').mono (Nat.zero_le _)
theorem zdB{l m:List zh}(h:Rg l)(h':Rg m):Rg (orr l m):=ZO (YD (ZO h) (ZO h'))
theorem zkl{n:Nat}:mem zq n↔n<ALL:=by unfold zq;rw[mem_cons];simp[zak]
end Sv
section
open Go.RowKit Sv
def qM(l:List zh):List Value:=l.flatMap fun s=>[.int .i64 s.1,.int .i64 s.2]
def sp(l:List zh)(i:Nat):zh:=l.getD i (0,0)
theorem Qo(l:List zh)(i:Nat)(h:i<l.length):sp l i=l[i]:=by unfold sp;simp[List.getD_eq_getElem?_getD,List.getElem?_eq_getElem h]
theorem X3(s:zh)(l:List zh)(i:Nat):sp (s :: l) (i+1)=sp l i:=by simp[sp]
theorem X7(a b:List zh):qM (a++b)=qM a++qM b:=by simp[qM]
theorem zba:∀(l:List zh) (i:Nat),i<l.length->(qM l)[i*2]?=some (.int .i64 ((sp l i).1:Int))/\(qM l)[i*2+1]?=some (.int .i64 ((sp l i).2:Int))
 |[],i,h=>by simp at h
 |n :: l,0,_=>by simp[qM,sp]
 |n :: l,i+1,h=>by
  have ih:=zba l i (by simpa using h);rw[X3];have e2:∀j,(qM (n :: l))[j+2]?=(qM l)[j]?:=fun j=>by
   show ([Value.int .i64 n.1,.int .i64 n.2]++qM l)[j+2]?=_;rw[List.getElem?_append_right (by simp)];simp
  rw[show (i+1)*2=i*2+2 by omega,show i*2+2+1=(i*2+1)+2 by omega,e2,e2];exact ih
structure zi(w:World)(v:Value)(l:List zh):Prop where
 form:∃a cap,v=.slice a l.length cap
 cells:∀i,i<l.length->∃g cap,v=.slice (some ⟨g,0,none⟩) l.length cap/\g<w.heap.size/\w.cell? ⟨g,i*2,none⟩=some (.int .i64 ((sp l i).1:Int))/\w.cell? ⟨g,i*2+1,none⟩=some (.int .i64 ((sp l i).2:Int))
theorem Kg(w:World):zi w (.slice none 0 0) []:=⟨⟨none,0,rfl⟩,fun i h=>by simp at h⟩
theorem zi.below{B:Nat}{w w':World}{v:Value}{l:List zh}(h:zi w v l)(hb:Below B w w')(hB:w.heap.size<=B):zi w' v l :=
 ⟨h.form,fun i hi=>by
  obtain⟨g,cap,e,hg,c0,c1⟩:=h.cells i hi;exact ⟨g,cap,e,Nat.lt_of_lt_of_le hg hb.size,(hb.cell (p:=⟨g,i * 2,none⟩) (by show g<B;omega)).trans c0,(hb.cell (p:=⟨g,i * 2 + 1,none⟩) (by show g<B;omega)).trans c1⟩⟩
theorem zi.drew{w:World}{v:Value}{l:List zh}(h:zi w v l):zi w.drew v l:=⟨h.form,h.cells⟩
theorem Xx{B:Nat}{w:World}{v:Value}{l:List zh}(h:w.ownsRow B 217 2 v l.length (qM l)):zi w v l:=by
 rcases h.2 with ⟨e,e0⟩|⟨g,cap,cur,e,hB,hg,hn,hm,hsz,htake⟩
 ·exact⟨⟨none,0,by rw[e,e0]⟩,fun i hi=>by omega⟩
 ·refine⟨⟨_,_,e⟩,fun i hi=>?_⟩;have hlt:g<w.heap.size:=(h.lt g (by rw[e];rfl)).2;obtain⟨c0,c1⟩:=zba l i hi;have cell:∀j,j<l.length*2->w.cell? ⟨g,j,none⟩=(qM l)[j]?:=fun j hj=>by
   rw[<-htake,List.getElem?_take,if_pos (by omega)];simp[World.cell?,hg]
  exact⟨g,cap,e,hlt,(cell _ (by omega)).trans c0,(cell _ (by omega)).trans c1⟩
theorem zk1:∀{l:List zh} {lo:Nat},yh lo l->lo<=ALL+1->2*l.length+lo<=ALL+1:=by
 intro l
 induction l with
 |nil=>intro lo _ h;simpa using h
 |cons s r ih =>intro lo h hlo;obtain⟨h1,h2,h3,h4⟩:=h;have:=ih h4 (by omega);simp only[List.length_cons];omega
theorem Ya{l:List zh}(h:Rg l):l.length<=500000000:=by
 have:=zk1 h (Nat.zero_le _);unfold ALL at this;omega
theorem zdo:(Tryz.prog.info? 217).map (fun i=>(i.zero,i.size,i.bytes))=some (some (.agg #[.int .i64 0,.int .i64 0]),2,16):=by kernel_rfl
theorem KW{B n:Nat}{w:World}{v:Value}{t:TypeId}{cs:List Value}(h:w.ownsRow B t 2 v n cs):∃a c,v=.slice a n c:=by
 rcases h.2 with ⟨e,e0⟩|⟨g,cap,cur,e,-⟩
 ·exact⟨none,0,by rw[e,e0]⟩
 ·exact⟨_,_,e⟩
theorem Ky(w:World)(A B:Value)(t:TypeId):∀(j:Nat) (u:Value),[A,B][j]?=some u->(w.alloc (.cells #[A,B] t)).cell? (Addr.add ⟨w.heap.size,0,none⟩ j)=some u:=by
 intro j u h
 match j,h with
 |0,h=>simp at h;subst h;simp[Addr.add]
 |1,h=>simp at h;subst h;simp[Addr.add]
 |j+2,h=>simp at h
theorem ZW{w w':World}{row:Option Nat}(hg:w.grownBy w' row){b i:Nat}(hb:b<w.heap.size)(hne:some b≠row):w'.cell? ⟨b,i,none⟩=w.cell? ⟨b,i,none⟩:=by
 unfold World.cell?;rw[hg.block b hb hne]
theorem Y2{B n:Nat}{w:World}{v:Value}{t:TypeId}{cs:List Value}(h:w.ownsRow B t 2 v n cs){b:Nat}(hb:w.heap.size<=b):some b≠v.ownBlock:=fun e=>by
 have:=(h.lt b e.symm).2;omega
theorem KN{B n b:Nat}{w:World}{v x:Value}{t:TypeId}{cs:List Value}(h:w.ownsRow B t 2 v n cs)(hb:b<B):(w.setCell ⟨b,0,none⟩ x).ownsRow B t 2 v n cs:=by
 refine⟨h.1,?_⟩;rcases h.2 with h1|⟨g,cap,cur,h1,h2,h3,h4⟩
 ·exact .inl h1
 ·exact .inr ⟨g,cap,cur,h1,h2,(Below.heap_setCell _ _ _ g (by show g≠b;omega)).trans h3,h4⟩
theorem QF(w:World)(A:Value)(t:TypeId):(w.alloc (.cells #[A] t)).cell? ⟨w.heap.size,0,none⟩=some A:=by simp
theorem KD(w:World)(A B:Value)(t:TypeId):(w.alloc (.cells #[A,B] t)).cell? ⟨w.heap.size,0,none⟩=some A/\(w.alloc (.cells #[A,B] t)).cell? ⟨w.heap.size,1,none⟩=some B:=⟨by simp,by simp⟩
theorem zcF(w:World)(A:Value)(t:TypeId):(w.alloc (.cells #[A] t)).frozen? ⟨w.heap.size,0,none⟩=false:=by simp
structure zbH(w W:World)(A B C:Value):Prop where
 below:zB w W
 size:W.heap.size=w.heap.size+3
 c0:W.cell? ⟨w.heap.size,0,none⟩=some A
 c1:W.cell? ⟨w.heap.size+1,0,none⟩=some B
 c2:W.cell? ⟨w.heap.size+1+1,0,none⟩=some C
 f2:W.frozen? ⟨w.heap.size+1+1,0,none⟩=false
theorem J2(w:World)(A B C:Value)(t t' t'':TypeId):zbH w (((w.alloc (.cells #[A] t)).alloc (.cells #[B] t')).alloc (.cells #[C] t'')) A B C:=by
 have s1:(w.alloc (.cells #[A] t)).heap.size=w.heap.size+1:=World.size_alloc _ _;have h1:=QF w A t;have h2:=QF (w.alloc (.cells #[A] t)) B t';have h3:=QF ((w.alloc (.cells #[A] t)).alloc (.cells #[B] t')) C t'';have f3:=zcF ((w.alloc (.cells #[A] t)).alloc (.cells #[B] t')) C t'';have s2:((w.alloc (.cells #[A] t)).alloc (.cells #[B] t')).heap.size=w.heap.size+1+1:=by rw[World.size_alloc,s1]
 have b1:zB w (w.alloc (.cells #[A] t)):=(Below.refl _ w).alloc zN _;have b2:Below (w.heap.size+1) (w.alloc (.cells #[A] t)) ((w.alloc (.cells #[A] t)).alloc (.cells #[B] t')):=zF.alloc (by omega) _;have b3:Below (w.heap.size+1+1) ((w.alloc (.cells #[A] t)).alloc (.cells #[B] t')) (((w.alloc (.cells #[A] t)).alloc (.cells #[B] t')).alloc (.cells #[C] t'')):=zF.alloc (by omega) _;rw[s1] at h2;rw[s2] at h3 f3;refine⟨b1.trans ((b2.mono (by omega)).trans (b3.mono (by omega))),by rw[World.size_alloc,s2],?_,?_,h3,f3⟩
 ·exact(b3.cell (p:=⟨w.heap.size,0,none⟩) (by show w.heap.size<_;omega)).trans ((b2.cell (p:=⟨w.heap.size,0,none⟩) (by show w.heap.size<_;omega)).trans h1)
 ·exact(b3.cell (p:=⟨w.heap.size+1,0,none⟩) (by show w.heap.size+1<_;omega)).trans h2
structure Xi(w W:World)(bs bt:Nat)(A T C D:Value):Prop where
 below:zB w W
 hs:w.heap.size<=bs
 ht:w.heap.size<=bt
 ls:bs<W.heap.size
 lt:bt<W.heap.size
 s0:W.cell? ⟨bs,0,none⟩=some A
 s1:W.cell? ⟨bs,1,none⟩=some T
 t0:W.cell? ⟨bt,0,none⟩=some C
 t1:W.cell? ⟨bt,1,none⟩=some D
theorem ze8(w:World)(A T C D:Value)(t t':TypeId):Xi w ((w.alloc (.cells #[A,T] t)).alloc (.cells #[C,D] t')).drew w.heap.size (w.heap.size+1) A T C D:=by
 have s1:(w.alloc (.cells #[A,T] t)).heap.size=w.heap.size+1:=World.size_alloc _ _;have s2:((w.alloc (.cells #[A,T] t)).alloc (.cells #[C,D] t')).heap.size=w.heap.size+1+1:=by rw[World.size_alloc,s1]
 have b1:zB w (w.alloc (.cells #[A,T] t)):=(Below.refl _ w).alloc zN _;have b2:Below (w.heap.size+1) (w.alloc (.cells #[A,T] t)) ((w.alloc (.cells #[A,T] t)).alloc (.cells #[C,D] t')).drew:=(zF.alloc (by omega) _).drew;have h1:=KD w A T t;have h2:=KD (w.alloc (.cells #[A,T] t)) C D t';rw[s1] at h2;have ls:w.heap.size<((w.alloc (.cells #[A,T] t)).alloc (.cells #[C,D] t')).drew.heap.size:=by show w.heap.size<((w.alloc (.cells #[A,T] t)).alloc (.cells #[C,D] t')).heap.size;omega
 have lt:w.heap.size+1<((w.alloc (.cells #[A,T] t)).alloc (.cells #[C,D] t')).drew.heap.size:=by show w.heap.size+1<((w.alloc (.cells #[A,T] t)).alloc (.cells #[C,D] t')).heap.size;omega
 exact⟨b1.trans (b2.mono (by omega)),Nat.le_refl _,by omega,ls,lt,(b2.cell (p:=⟨w.heap.size,0,none⟩) (by show w.heap.size<_;omega)).trans h1.1,(b2.cell (p:=⟨w.heap.size,1,none⟩) (by show w.heap.size<_;omega)).trans h1.2,h2.1,h2.2⟩
theorem zho(w:World)(A T C D:Value)(t t':TypeId):Xi w ((w.alloc (.cells #[C,D] t')).alloc (.cells #[A,T] t)).drew (w.heap.size+1) w.heap.size A T C D:=by
 have h:=ze8 w C D A T t' t;exact⟨h.below,h.ht,h.hs,h.lt,h.ls,h.t0,h.t1,h.s0,h.s1⟩
theorem Xi.drewN{w W:World}{bs bt:Nat}{A T C D:Value}(h:Xi w W bs bt A T C D)(n:Nat):Xi w (W.drewN n) bs bt A T C D:=by
 induction n with
 |zero=>exact h
 |succ n ih=>exact⟨⟨ih.below.os,ih.below.tape,ih.below.output,ih.below.size,ih.below.block⟩,ih.hs,ih.ht,ih.ls,ih.lt,ih.s0,ih.s1,ih.t0,ih.t1⟩
theorem zbk{B n b:Nat}{w w':World}{v:Value}{t:TypeId}{cs:List Value}(h:w.ownsRow B t 2 v n cs)(hb:Below b w w')(hB:w.heap.size<=b):w'.ownsRow B t 2 v n cs:=by
 refine⟨h.1,?_⟩;rcases h.2 with h1|⟨g,cap,cur,h1,h2,h3,h4⟩
 ·exact .inl h1
 ·exact .inr ⟨g,cap,cur,h1,h2,(hb.block g (by have:=(h.lt g (by rw[h1];rfl)).2;omega)).trans h3,h4⟩
def QL(w:World)(l:List zh)(e:Ending)(w':World):Prop:=∃v',e=.returned (.agg #[v'])/\zi w' v' l/\(∀g,v'.ownBlock=some g->w.heap.size<=g)/\zB w w'
theorem zi.set{w:World}{v x:Value}{l:List zh}{b:Nat}(h:zi w v l)(hn:v.ownBlock≠some b):zi (w.setCell ⟨b,0,none⟩ x) v l :=
 ⟨h.form,fun i hi=>by
  obtain⟨g,cap,e,hg,c0,c1⟩:=h.cells i hi;have hne:g≠b:=fun e'=>hn (by rw[e,e'];rfl);have hh:=Below.heap_setCell w ⟨b,0,none⟩ x g hne;refine⟨g,cap,e,Nat.lt_of_lt_of_le hg ((Below.refl 0 w).setCell (p:=⟨b,0,none⟩) (Nat.zero_le _) x).size,?_,?_⟩
  ·rw[<-c0];unfold World.cell?;rw[hh]
  ·rw [<- c1];unfold World.cell?;rw [hh]⟩
end
section
open Go.RowKit Go.Shelf Go.Sort Sv
structure Lb(w:World):Prop where
 ml:∃n,w.cell? ⟨3,0,none⟩=some (.int .i64 n)
 es:∃ev,w.cell? ⟨6,0,none⟩=some ev/\(ev=.nilIface\/∃te pe,ev=.iface te pe)
 er:∃ev,w.cell? ⟨7,0,none⟩=some ev/\(ev=.nilIface\/∃te pe,ev=.iface te pe)
 tab:Lib.TabIs Tryz.prog w "internal/strconv.uint64pow10" .u64 Lib.pow10Tab
 glob:Zd w
 big:10<=w.heap.size
theorem Lb.below{w w':World}(h:Lb w)(hb:zB w w'):Lb w':=by
 have hbig:=h.big;obtain⟨n,h1⟩:=h.ml;obtain⟨e3,h3,h3'⟩:=h.es;obtain⟨e4,h4,h4'⟩:=h.er;exact⟨⟨n,(hb.cell (p:=⟨3,0,none⟩) (by show 3<_;omega)).trans h1⟩,⟨e3,(hb.cell (p:=⟨6,0,none⟩) (by show 6<_;omega)).trans h3,h3'⟩,⟨e4,(hb.cell (p:=⟨7,0,none⟩) (by show 7<_;omega)).trans h4,h4'⟩,Lib.tabBelow_of_tabIs h.tab w' hb,h.glob.below hb,Nat.le_trans hbig hb.size⟩
def xX(l:List UInt8):Except Int Nat :=
 match Lib.parseIntB 64 l with
 |.ok v=>if v<0\/Lib.itoa v≠l then .error 3 else if 999<v then .error 2 else .ok v.toNat
 |_=>.error 3
def zeO:Except Int Nat->Value
 |.ok n=>.tuple #[.int .i64 n,.nilIface]
 |.error k=>.tuple #[.int .i64 0,.iface 76 (.int .i64 k)]
theorem zfN(B:Nat)(w:World)(k:Nat)(os:Array Obj)(h:B<=w.heap.size):Below B w (grow (w.drewN k) os):=Lib.below_grow _ w h k os
theorem zgM(w:World)(t:ByteArray):zB w (Lib.bytesWorld w 5 t):=by
 have h:=((Below.refl w.heap.size w).drew).alloc zN (.cells (Lib.bytesCells w 5 t) 5);refine⟨h.os,h.tape,h.output,?_,fun k hk=>?_⟩
 ·exact Nat.le_trans h.size (by simp[Lib.bytesWorld,World.freeze])
 ·rw[<-h.block k hk];simp only[Lib.bytesWorld,World.freeze];rw[if_neg (by decide),Array.getElem?_modify,if_neg (by omega)]
theorem zfH{l:List UInt8}{v:Int}(h:Lib.parseIntB 64 l=.ok v):-9223372036854775808<=v/\v<=9223372036854775807:=by
 unfold Lib.parseIntB at h;split at h
 ·cases h
 ·simp only at h;split at h
  ·cases h
  ·cases h
  ·split at h
   ·cases h
   ·split at h
    ·cases h
    ·cases h;split<;>simp_all<;>omega
theorem za5(s:ByteArray)(w:World)(hs:s.size<=100000)(hw:Lb w)(h:∀v,Lib.parseIntB 64 s.data.toList≠.ok v) :
  zR 100 #[.string s] w (.tuple #[.int .i64 0,.iface 76 (.int .i64 3)]):=by
 have H:Hid (zC 141 #[.string s,.int .i64 10,.int .i64 64] w fun e w'=>∃N x,e=.returned (.tuple #[.int .i64 x,.iface 303 (.pointer (some ⟨N,0,none⟩))])/\zB w w'):=by
  cases hp:Lib.parseIntB 64 s.data.toList with
  |ok v=>exact absurd hp (h v)
  |«syntax» =>obtain⟨ev,h3,h3'⟩:=hw.es;exact(Tryz.strconv_ParseInt_10_at64_syntax s (by omega) hp ev w h3 h3').mono fun e w' ⟨N,he,_,_,hb⟩=>⟨N,_,he,hb⟩
  |range =>obtain⟨ev,h3,h3'⟩:=hw.er;exact(Tryz.strconv_ParseInt_10_at64_range s (by omega) hp ev w h3 h3').mono fun e w' ⟨N,he,_,_,hb⟩=>⟨N,_,he,hb⟩
 clear h hw;go_enter Tryz.func100,Tryz.ntmps100;go_wp2_with fail;refine H.out.mono ?_;rintro e w1 ⟨N,x,rfl,hb⟩;have HB:=zH hb;clear hb H;go_wp2;go_ret2;exact⟨rfl,HB.out⟩
theorem zfQ(s:ByteArray)(w:World)(hs:s.size<=100000)(hw:Lb w)(v:Int)(h:Lib.parseIntB 64 s.data.toList=.ok v) :
  zR 100 #[.string s] w (zeO (if v<0\/Lib.itoa v≠s.data.toList then .error 3 else if 999<v then .error 2 else .ok v.toNat)):=by
 obtain⟨r0,r1⟩:=zfH h;have H:Hid (zR 141 #[.string s,.int .i64 10,.int .i64 64] w (.tuple #[.int .i64 v,.nilIface])):=(Tryz.strconv_ParseInt_10_at64_ok s (by omega) v h w).mono fun e w' ⟨he,hw'⟩=>by
  refine⟨he,?_⟩;rcases hw' with rfl|⟨t,rfl⟩
  ·exact Below.refl _ _
  ·exact zgM w t
 have HF:Hid (∀W,zB w W->zR 142 #[.int .i64 v,.int .i64 10] W (.string ⟨(Lib.itoa v).toArray⟩)):=fun W hb=>(Tryz.strconv_FormatInt_10 v r0 r1 W (hw.below hb).tab).mono fun e w' ⟨he,k,os,hw'⟩=>⟨he,hw'▸zfN _ W k os zN⟩;clear h hw
 by_cases hneg:v<0
 ·rw[if_pos (Or.inl hneg)];go_enter Tryz.func100,Tryz.ntmps100;go_wp2_with fail;refine H.out.mono ?_;rintro e w1 ⟨rfl,hb⟩;have HB:=zH hb;clear hb H;go_wp2;go_ret2;exact⟨rfl,HB.out⟩
 ·generalize Lib.itoa v=l at *
  by_cases hl:l=s.data.toList
  ·have heq:(l==s.toList)=true:=by rw[ByteArray.toList_eq,hl];simp
   rw[if_neg (by rintro (h|h);exact hneg h;exact h hl)];clear hl
   by_cases hbig:999<v
   ·rw[if_pos hbig];go_enter Tryz.func100,Tryz.ntmps100;go_wp2_with fail;refine H.out.mono ?_;rintro e w1 ⟨rfl,hb⟩;have H2:=zH (HF.out _ hb);have HB:=zH hb;clear hb H HF;go_wp2_with fail;refine H2.out.mono ?_;rintro e w2 ⟨rfl,hb2⟩;have HB2:Hid (zB w w2):=zT HB.out hb2;clear hb2 H2 HB;go_wp2;go_ret2;exact⟨rfl,HB2.out⟩
   ·rw[if_neg hbig];have hv:((v.toNat:Nat):Int)=v:=by omega
    go_enter Tryz.func100,Tryz.ntmps100;go_wp2_with fail;refine H.out.mono ?_;rintro e w1 ⟨rfl,hb⟩;have H2:=zH (HF.out _ hb);have HB:=zH hb;have HV:=zH hv;clear hb H HF hv;go_wp2_with fail;refine H2.out.mono ?_;rintro e w2 ⟨rfl,hb2⟩;have HB2:Hid (zB w w2):=zT HB.out hb2;clear hb2 H2 HB;go_wp2;go_ret2;exact⟨(show Ending.returned (.tuple #[.int .i64 v,.nilIface])=.returned (.tuple #[.int .i64 ((v.toNat:Nat):Int),.nilIface]) by rw[HV.out]),HB2.out⟩
  ·have heq:(l==s.toList)=false:=by rw[ByteArray.toList_eq];simpa using hl
   rw[if_pos (Or.inr hl)];clear hl;go_enter Tryz.func100,Tryz.ntmps100;go_wp2_with fail;refine H.out.mono ?_;rintro e w1 ⟨rfl,hb⟩;have H2:=zH (HF.out _ hb);have HB:=zH hb;clear hb H HF;go_wp2_with fail;refine H2.out.mono ?_;rintro e w2 ⟨rfl,hb2⟩;have HB2:Hid (zB w w2):=zT HB.out hb2;clear hb2 H2 HB;go_wp2;go_ret2;exact⟨rfl,HB2.out⟩
theorem zh7(s:ByteArray)(w:World)(hs:s.size<=100000)(hw:Lb w) :
  zR 100 #[.string s] w (zeO (xX s.data.toList)):=by
 cases h:Lib.parseIntB 64 s.data.toList with
 |ok v=>unfold xX;rw[h];exact zfQ s w hs hw v h
 |«syntax»=>unfold xX;rw[h];exact za5 s w hs hw (fun v e=>by rw[h] at e;cases e)
 |range=>unfold xX;rw[h];exact za5 s w hs hw (fun v e=>by rw[h] at e;cases e)
end
end Go.Proofs.YtjmfeefogikdfaaGreatDoor
