/- lines: a function that is ranged over. -/
import Derived.Test.YtlamemjfaogjmaaGreatDoorCtSmall
set_option maxHeartbeats 4000000
set_option maxRecDepth 100000
namespace Go.Proofs.YtlamemjfaogjmaaGreatDoor
section
open Go.RowKit Go.Extern.Stop Go.Stop Go.Extern
namespace Errs
theorem zdM(v:Value)(w:World):(ReflectliteType.typeOf #[.iface 95 v]).run Tryz.prog w=.ok (.iface 207 (.agg #[.pointer (some ⟨12,95,none⟩)])) w:=by kernel_rfl
theorem zhC(w:World):(ReflectliteType.relation "AssignableTo" ReflectliteType.assignableTo #[.agg #[.pointer (some ⟨12,95,none⟩)],.iface 207 (.agg #[.pointer (some ⟨12,28,none⟩)])]).run Tryz.prog w=.ok (.bool false) w:=by kernel_rfl
theorem zgE(h:Value)(w:World):(Go.method 415 95 h "Unwrap").run Tryz.prog w=.ok (212,h) w:=by kernel_rfl
theorem zb2(v:Value)(w:World):(Instr.typeAssert (.iface 95 v) 32 212 true).run Tryz.prog w=.ok (.tuple #[.nilIface,.bool false]) w:=run_typeAssert_lacksB Tryz.underlying212 (by kernel_rfl) (by kernel_rfl) _ 32 w
theorem zgs(v:Value)(w:World):(Instr.typeAssert (.iface 95 v) 32 154 true).run Tryz.prog w=.ok (.tuple #[.iface 95 v,.bool true]) w:=run_typeAssert_hasB Tryz.underlying154 (by kernel_rfl) _ 32 w
theorem as_at(n:Int)(ba:Nat)(t:Addr)(old:Value)(w:World)(hg:w.cell? ⟨3,0,none⟩=some (.iface 207 (.agg #[.pointer (some ⟨12,32,none⟩)])))(ht0:w.cell? t=some old)(hf0:w.frozen? t=false)(hba:w.cell? ⟨ba,0,none⟩=some (.int .i64 n)) :
  zC 61 #[.iface 95 (.pointer (some ⟨ba,0,none⟩)),.iface 133 (.pointer (some t))] w fun ev w'=>ev=.returned (.bool true)/\w'=((((w.alloc (.cells #[.pointer (some t)] 133)).alloc (.cells #[.pointer (some ⟨12,133,none⟩),.pointer (some ⟨w.heap.size,0,none⟩),.int .u64 150] 176)).alloc (.cells #[.pointer (some ⟨12,133,none⟩),.pointer (some ⟨w.heap.size,0,none⟩),.int .u64 150] 176)).alloc (.cells #[.int .i64 n] 28)).setCell t (.int .i64 n):=by
 have h6:=@run_callFunc_extern Tryz.prog 91 _ (fun args=>ReflectliteValue.unpack (args.getD 0 (.tuple #[]))) Tryz.func91 (by kernel_rfl) (by kernel_rfl) (by kernel_rfl) (by kernel_rfl);have h7:=@run_callFunc_extern Tryz.prog 92 _ (ReflectliteValue.methodAny (ReflectliteValue.valueError "reflectlite.Value.Type" 0) (fun t _ _ _=>ReflectliteType.toType t)) Tryz.func92 (by kernel_rfl) (by kernel_rfl) (by kernel_rfl) (by kernel_rfl);have h8:=@run_callFunc_extern Tryz.prog 93 _ (ReflectliteValue.method (ReflectliteValue.valueError "reflectlite.Value.IsNil" 0) ReflectliteValue.isNil) Tryz.func93 (by kernel_rfl) (by kernel_rfl) (by kernel_rfl) (by kernel_rfl);have h27:=@run_callFunc_extern Tryz.prog 205 _ (ReflectliteType.abiMethod fun t=>do pure (.int .u8 (<-Rtype.kind t))) Tryz.func205 (by kernel_rfl) (by kernel_rfl) (by kernel_rfl) (by kernel_rfl);have h37:=@run_callFunc_extern Tryz.prog 219 _ (ReflectliteType.method ReflectliteType.elem) Tryz.func219 (by kernel_rfl) (by kernel_rfl) (by kernel_rfl) (by kernel_rfl);have h38:=@run_callFunc_extern Tryz.prog 220 _ (ReflectliteType.relation "Implements" ReflectliteType.implements_) Tryz.func220 (by kernel_rfl) (by kernel_rfl) (by kernel_rfl) (by kernel_rfl);have h10:=@run_callFunc_extern Tryz.prog 121 _ ReflectliteType.typeOf Tryz.func121 (by kernel_rfl) (by kernel_rfl) (by kernel_rfl) (by kernel_rfl);have h35:=@run_callFunc_extern Tryz.prog 217 _ (ReflectliteType.relation "AssignableTo" ReflectliteType.assignableTo) Tryz.func217 (by kernel_rfl) (by kernel_rfl) (by kernel_rfl) (by kernel_rfl);have h11:=@run_callFunc_extern Tryz.prog 122 _ (ReflectliteValue.method (ReflectliteValue.valueError "reflectlite.Value.Elem" 0) ReflectliteValue.elem) Tryz.func122 (by kernel_rfl) (by kernel_rfl) (by kernel_rfl) (by kernel_rfl);have h12:=@run_callFunc_extern Tryz.prog 123 _ ReflectliteValue.set Tryz.func123 (by kernel_rfl) (by kernel_rfl) (by kernel_rfl) (by kernel_rfl);have tO:=zam;have mA:=XT;have a25:=J0;have v25:=zai;have f6:=JI;have f7:=JL;have mK:=JQ;have mE:=Kf;have mI:=JA;have k27:=Kd;have k25:=zaz;have e27:=KR;have i25:=JV;have n8:=JT ⟨w.heap.size,0,none⟩ t ((w.alloc (.cells #[.pointer (some t)] 133)).alloc (.cells #[.pointer (some ⟨12,133,none⟩),.pointer (some ⟨w.heap.size,0,none⟩),.int .u64 150] 176)) (by simp);have hlt:3<w.heap.size:=by
  rcases Nat.lt_or_ge 3 w.heap.size with h|h
  ·exact h
  ·simp[World.cell?,Array.getElem?_eq_none h] at hg
 have hg2:((w.alloc (.cells #[.pointer (some t)] 133)).alloc (.cells #[.pointer (some ⟨12,133,none⟩),.pointer (some ⟨w.heap.size,0,none⟩),.int .u64 150] 176)).cell? ⟨3,0,none⟩=some (.iface 207 (.agg #[.pointer (some ⟨12,32,none⟩)])):=by
  rw[World.cell?_alloc_lt _ _ ⟨3,0,none⟩ (by simp only[World.size_alloc];omega),World.cell?_alloc_lt _ _ ⟨3,0,none⟩ hlt];exact hg
 have htl:t.block<w.heap.size:=by
  rcases Nat.lt_or_ge t.block w.heap.size with h|h
  ·exact h
  ·simp[World.cell?,Array.getElem?_eq_none h] at ht0
 have el:=Jm ⟨w.heap.size,0,none⟩ t (((w.alloc (.cells #[.pointer (some t)] 133)).alloc (.cells #[.pointer (some ⟨12,133,none⟩),.pointer (some ⟨w.heap.size,0,none⟩),.int .u64 150] 176)).alloc (.cells #[.pointer (some ⟨12,133,none⟩),.pointer (some ⟨w.heap.size,0,none⟩),.int .u64 150] 176)) (by rw[World.cell?_alloc_lt _ _ ⟨w.heap.size,0,none⟩ (by simp;omega)];simp);have st:=KD t ⟨w.heap.size+1+1+1,0,none⟩ n old ((((w.alloc (.cells #[.pointer (some t)] 133)).alloc (.cells #[.pointer (some ⟨12,133,none⟩),.pointer (some ⟨w.heap.size,0,none⟩),.int .u64 150] 176)).alloc (.cells #[.pointer (some ⟨12,133,none⟩),.pointer (some ⟨w.heap.size,0,none⟩),.int .u64 150] 176)).alloc (.cells #[.int .i64 n] 28))
  (by rw[World.cell?_alloc_at _ _ _ _ (by simp)];rfl)
  (by rw[World.cell?_alloc_lt _ _ t (by simp;omega),World.cell?_alloc_lt _ _ t (by simp;omega),World.cell?_alloc_lt _ _ t (by simp;omega),World.cell?_alloc_lt _ _ t htl];exact ht0)
  (by rw[World.frozen?_alloc_old _ _ t (by simp;omega),World.frozen?_alloc_old _ _ t (by simp;omega),World.frozen?_alloc_old _ _ t (by simp;omega),World.frozen?_alloc_old _ _ t (Nat.ne_of_lt htl)];exact hf0)
 have hbl:ba<w.heap.size:=by
  rcases Nat.lt_or_ge ba w.heap.size with h|h
  ·exact h
  ·simp[World.cell?,Array.getElem?_eq_none h] at hba
 have hb3:(((w.alloc (.cells #[.pointer (some t)] 133)).alloc (.cells #[.pointer (some ⟨12,133,none⟩),.pointer (some ⟨w.heap.size,0,none⟩),.int .u64 150] 176)).alloc (.cells #[.pointer (some ⟨12,133,none⟩),.pointer (some ⟨w.heap.size,0,none⟩),.int .u64 150] 176)).cell? ⟨ba,0,none⟩=some (.int .i64 n):=by
  rw[World.cell?_alloc_lt _ _ ⟨ba,0,none⟩ (by simp only[World.size_alloc];omega),World.cell?_alloc_lt _ _ ⟨ba,0,none⟩ (by simp only[World.size_alloc];omega),World.cell?_alloc_lt _ _ ⟨ba,0,none⟩ hbl];exact hba
 have tA:=zdM;have aA:=zhC;have mU:=zgE;have n1:=zb2;have y1:=zgs;go_enter Tryz.func61,Tryz.ntmps61;go_wp2;refine wp_loop_rounds 2 ?_;rw[rounds_succ];go_wp2;rw[rounds_succ];go_wp2;go_ret;exact⟨rfl,rfl⟩
end Errs
theorem zaD(n:Int)(ba:Nat)(w:World)(hg:yb w)(hba:w.cell? ⟨ba,0,none⟩=some (.int .i64 n)) :
  zR 35 #[.iface 95 (.pointer (some ⟨ba,0,none⟩))] w (.int .i64 n):=by
 have hbl:ba<w.heap.size:=by
  rcases Nat.lt_or_ge ba w.heap.size with h|h
  ·exact h
  ·simp[World.cell?,Array.getElem?_eq_none h] at hba
 have H:=Errs.as_at n ba ⟨w.heap.size,0,none⟩ (.int .i64 0) (w.alloc (.cells #[.int .i64 0] 28)) (hg.below (zF.alloc zN _)) (Qs _ _ _) (KG _ _ _) ((World.cell?_alloc_lt _ _ ⟨ba,0,none⟩ hbl).trans hba);clear hba;go_enter Tryz.func35,Tryz.ntmps35;go_wp2_with fail;refine H.mono ?_;rintro e w' ⟨rfl,hw⟩;have hc:w'.cell? ⟨w.heap.size,0,none⟩=some (.int .i64 n):=by
  rw[hw];refine World.cell?_setCell_same' _ _ _ ?_;rw[World.cell?_alloc_lt _ _ ⟨w.heap.size,0,none⟩ (by simp;omega),World.cell?_alloc_lt _ _ ⟨w.heap.size,0,none⟩ (by simp;omega),World.cell?_alloc_lt _ _ ⟨w.heap.size,0,none⟩ (by simp;omega),World.cell?_alloc_lt _ _ ⟨w.heap.size,0,none⟩ (by simp),Qs];rfl
 have hb:zB w w':=by
  rw[hw];exact(((((zF.alloc zN _).alloc (by simp) _).alloc (by simp;omega) _).alloc (by simp;omega) _).alloc (by simp;omega) _).setCell zN _
 clear H hw;go_wp2;go_ret;exact⟨rfl,hb⟩
theorem zdE(w:World):zC 48 #[.nilIface] w fun e w'=>e=.returned (.tuple #[.int .i64 0,.int .i64 (-1)])/\w=w':=by
 go_enter Tryz.func48,Tryz.ntmps48;go_wp2_with fail;refine(zer _).mono ?_;rintro e w' ⟨rfl,rfl⟩;go_wp2_with fail;refine wp_loop_rounds 1 ?_;rw[rounds_succ];go_wp2;go_ret2;exact⟨rfl,rfl⟩
theorem KI(n:Int)(w:World):(Instr.typeAssert (.iface 28 (.int .i64 n)) 32 95 true).run Tryz.prog w=.ok (.tuple #[.pointer none,.bool false]) w:=by kernel_rfl
theorem zaF(b:Nat)(w:World):(Instr.typeAssert (.iface 95 (.pointer (some ⟨b,0,none⟩))) 32 95 true).run Tryz.prog w=.ok (.tuple #[.pointer (some ⟨b,0,none⟩),.bool true]) w:=by kernel_rfl
theorem zho(n:Int)(w:World):(Instr.typeAssert (.iface 28 (.int .i64 n)) 32 154 true).run Tryz.prog w=.ok (.tuple #[.nilIface,.bool false]) w:=run_typeAssert_lacksB Tryz.underlying154 (by kernel_rfl) (by kernel_rfl) _ 32 w
theorem zdu(n:Int)(w:World)(hg:yb w):zR 48 #[.iface 28 (.int .i64 n)] w (.tuple #[.int .i64 n,.int .i64 (-1)]):=by
 have H:=Xp n w hg;have h1:=KI n;have h2:=zho n;go_enter Tryz.func48,Tryz.ntmps48;go_wp2_with fail;refine H.mono ?_;rintro e w' ⟨rfl,hb⟩;clear H;go_wp2_with fail;refine wp_loop_rounds 1 ?_;rw[rounds_succ];go_wp2;go_ret2;exact⟨rfl,hb⟩
theorem zbW(n pl:Int)(b:Nat)(w:World)(hg:yb w)(h0:w.cell? ⟨b,0,none⟩=some (.int .i64 n))(h1:w.cell? ⟨b,1,none⟩=some (.int .i64 pl)) :
  zR 48 #[.iface 95 (.pointer (some ⟨b,0,none⟩))] w (.tuple #[.int .i64 n,.int .i64 pl]):=by
 have hbl:b<w.heap.size:=by
  rcases Nat.lt_or_ge b w.heap.size with h|h
  ·exact h
  ·simp[World.cell?,Array.getElem?_eq_none h] at h0
 have H:=zaD n b w hg h0;have h2:=zaF b;have H1:=zH h1;clear h1 h0;go_enter Tryz.func48,Tryz.ntmps48;go_wp2_with fail;refine H.mono ?_;rintro e w' ⟨rfl,hb⟩;have c1:w'.cell? ⟨b,1,none⟩=some (.int .i64 pl):=(hb.cell (p:=⟨b,1,none⟩) hbl).trans H1.out;clear H;go_wp2_with fail;refine wp_loop_rounds 1 ?_;rw[rounds_succ];go_wp2_with fail;go_quiet (fail);have hbn:zB w (w'.drewN nq):=hb.trans ⟨rfl,rfl,rfl,Nat.le_refl _,fun _ _=>rfl⟩;have HBN:=zH hbn;clear hbn;go_wp2;go_ret2;exact⟨rfl,HBN.out⟩
theorem zel(e:Value)(m pl:Int)(w:World)(hg:yb w)(h:xG w e m pl):zR 48 #[e] w (.tuple #[.int .i64 m,.int .i64 pl]):=by
 rcases h with ⟨rfl,rfl,rfl⟩|⟨_,rfl,rfl⟩|⟨_,b,_,rfl,h0,h1⟩
 ·exact(zdE w).mono fun e w' ⟨he,hw⟩=>⟨he,hw▸Below.refl _ _⟩
 ·exact zdu m w hg
 ·exact zbW m pl b w hg h0 h1
theorem xN(k:Int)(w:World):zR 28 #[.int .i64 k] w (.agg #[.int .i64 k,.int .i64 (-1)]):=by
 go_enter Tryz.func28,Tryz.ntmps28;go_wp2;exact bodyPost_ret (v:=.agg #[.int .i64 k,.int .i64 (-1)]) (by simp[results,Tryz.results28,go_sem]) rfl ⟨rfl,zF.alloc zN _⟩
theorem zdQ(m k pl pk:Int)(v:Value)(w:World)(hg:yb w)(hv:xG w v m pl) :
  zR 27 #[v,.agg #[.int .i64 k,.int .i64 pk]] w (.bool (m==k&&pl==pk)):=by
 have HH:Hid (∀W:World,zB w W->zR 48 #[v] W (.tuple #[.int .i64 m,.int .i64 pl])):=fun W hW=>zel v m pl W (hg.below hW) (hv.below hW);clear hv hg;have hb1:zB w (w.alloc (.cells #[.int .i64 k,.int .i64 pk] 45)):=zF.alloc zN _;have fin:∀q r:Bool,(m==k)=q->(pl==pk)=r->zR 27 #[v,.agg #[.int .i64 k,.int .i64 pk]] w (.bool (q&&r)):=by
  intro q r hq hr;cases q<;>cases r
  all_goals
   go_enter Tryz.func27,Tryz.ntmps27;go_wp2_with fail;refine(HH.out _ hb1).mono ?_;rintro e w2 ⟨rfl,hb2⟩;have c0:w2.cell? ⟨w.heap.size,0,none⟩=some (.int .i64 k):=(hb2.cell (p:=⟨w.heap.size,0,none⟩) (by simp)).trans (by simp);have c1:w2.cell? ⟨w.heap.size,1,none⟩=some (.int .i64 pk):=(hb2.cell (p:=⟨w.heap.size,1,none⟩) (by simp)).trans (by simp);have hb3:zB w w2:=hb1.trans (hb2.mono (by simp));clear hb2;go_wp2;go_ret;exact⟨rfl,hb3⟩
 exact fin _ _ rfl rfl
end
section
open Go.RowKit Go.Shelf Sv
structure Lw(w:World):Prop where
 lb:Lb w
 wd:xg w
theorem Lw.below{w w':World}(h:Lw w)(hb:zB w w'):Lw w':=⟨h.lb.below hb,h.wd.below hb (by have:=h.lb.big;omega)⟩
theorem y8(s:ByteArray)(c:UInt8)(W:World)(hs:s.size<=100000)(hw:Lb W) :
  zC 56 #[.string s,.string ⟨#[c]⟩] W fun e w'=>∃b,e=.returned (.tuple #[.string (cutF s c).1,.string (cutF s c).2,.bool b])/\zB W w':=by
 obtain⟨m,hm⟩:=hw.ml;refine(Tryz.strings_Cut s ⟨#[c]⟩ m W (by omega) hm).mono fun e w' ⟨he,n,hn⟩=>⟨_,he,?_⟩;subst hn;exact⟨rfl,rfl,rfl,Nat.le_refl _,fun _ _=>rfl⟩
theorem zdA(s:ByteArray)(w:World)(hs:1000<s.size) :
  zR 60 #[.string s] w (.tuple #[.agg #[.slice none 0 0],.iface 28 (.int .i64 4)]):=by
 have hl:(1000:Int)<(s.size:Int):=by omega
 generalize hn:(s.size:Int)=n at *;clear hs;go_enter Tryz.func60,Tryz.ntmps60;go_wp2;have k0:=((Blk.new w 90 #[.slice none 0 0]).alloc (.cells #[.iface 28 (.int .i64 4)] 32));have k1:=(Blk.new (w.alloc (.cells #[.slice none 0 0] 90)) 32 #[.iface 28 (.int .i64 4)]);rw[World.size_alloc] at k1;have hB:zB w ((w.alloc (.cells #[.slice none 0 0] 90)).alloc (.cells #[.iface 28 (.int .i64 4)] 32)):=((Below.refl _ w).alloc zN _).alloc (by simp only[World.size_alloc];omega) _;generalize (w.alloc (.cells #[.slice none 0 0] 90)).alloc (.cells #[.iface 28 (.int .i64 4)] 32)=WF at *;have r0:=k0.cell 0;have r3:=k1.cell 0;refine bodyPost_ret (v:=.tuple #[.agg #[.slice none 0 0],.iface 28 (.int .i64 4)]) (by simp[results,Tryz.f60,go_sem,r0,r3]) rfl ?_;exact⟨rfl,hB⟩
def qs(w:World)(er:Value)(k:Int):Option Nat->Prop
 |none=>er=.iface 28 (.int .i64 k)
 |some q=>∃N,er=.iface 95 (.pointer (some ⟨N,0,none⟩))/\Blk w N 97 #[.int .i64 k,.int .i64 q]
theorem qs.below{w w':World}{er:Value}{k:Int}{p:Option Nat}(h:qs w er k p)(hb:zB w w'):qs w' er k p:=by
 cases p with
 |none=>exact h
 |some q =>obtain⟨N,h1,h2⟩:=h;exact⟨N,h1,h2.below hb h2.lt⟩
theorem qs.form{w:World}{er:Value}{k:Int}{p:Option Nat}(h:qs w er k p):∃t v,er=.iface t v:=by
 cases p with
 |none=>exact⟨_,_,h⟩
 |some q=>obtain⟨N,h1,_⟩:=h;exact⟨_,_,h1⟩
def zet(r:Except (Int × Option Nat) (List Span))(w':World)(v er:Value):Prop :=
 match r with
 |.ok l=>er=.nilIface/\zb w' v l/\Rg l
 |.error (k,p)=>v=.slice none 0 0/\qs w' er k p
theorem XX(s:ByteArray)(w:World)(hs:s.size<=100000)(hw:Lb w) :
  zC 60 #[.string s] w fun e w'=>∃a n c er,e=.returned (.tuple #[.agg #[.slice a n c],er])/\zet (rngF s) w' (.slice a n c) er/\(∀g,(Value.slice a n c).ownBlock=some g->w.heap.size<=g)/\zB w w':=by
 unfold rngF
 by_cases h:1000<s.size
 ·rw[if_pos h];exact(zdA s w h).mono fun e w' ⟨he,hb⟩=>⟨none,0,0,_,he,⟨rfl,rfl⟩,(fun g hg=>by simp[Value.ownBlock] at hg),hb⟩
 ·rw[if_neg h];refine(zgD s w (by omega) hw).mono fun e w' h=>?_;unfold ZU at h;cases hx:yH s with
  |ok l =>rw[hx] at h;obtain⟨v',he,h1,h2,h3⟩:=h;obtain⟨a',c',rfl⟩:=h1.form;exact⟨a',_,c',_,he,⟨rfl,h1,Ji hx⟩,h2,h3⟩
  |error e2 =>obtain⟨k,q⟩:=e2;rw[hx] at h;obtain⟨N,he,h1,h2,h3⟩:=h;exact⟨none,0,0,_,he,⟨rfl,N,rfl,h1⟩,(fun g hg=>by simp[Value.ownBlock] at hg),h3⟩
abbrev z7:Array Value:=#[.int .i64 0,.string ⟨#[]⟩,.int .i64 0,.int .i64 0,.int .i64 0,.string ⟨#[]⟩,.slice none 0 0]
def ZL(w:World)(r:Except (Int × Option Nat) Ln)(e:Ending)(w':World):Prop :=
 match r with
 |.ok x=>∃v,e=.returned (.tuple #[.agg #[.int .i64 x.kind,.string x.name,.int .i64 x.a,.int .i64 x.b,.int .i64 x.c,.string x.other,v],.nilIface])/\zb w' v x.rng/\Rg x.rng/\(∀g,v.ownBlock=some g->w.heap.size<=g)/\zB w w'
 |.error (k,p)=>∃er,e=.returned (.tuple #[.agg z7,er])/\qs w' er k p/\zB w w'
structure LS(w W:World)(b:Nat)(cs:Array Value):Prop where
 z:Blk W w.heap.size 92 z7
 x:Blk W b 92 cs
 ne:w.heap.size<b
 B:zB w W
theorem LS.step{w W W':World}{b:Nat}{cs:Array Value}(h:LS w W b cs)(hb:zB W W'):LS w W' b cs:=⟨h.z.below hb h.z.lt,h.x.below hb h.x.lt,h.ne,zT h.B hb⟩
theorem LS.set{w W:World}{b:Nat}{cs:Array Value}(h:LS w W b cs)(i:Nat)(v:Value):LS w (W.setCell ⟨b,i,none⟩ v) b (cs.setIfInBounds i v) :=
 ⟨h.z.other (by have:=h.ne;omega),h.x.set,h.ne,h.B.setCell (p:=⟨b,i,none⟩) (Nat.le_of_lt h.ne) _⟩
theorem Blk.ne_type{W:World}{b b':Nat}{t t':TypeId}{cs cs':Array Value}(h:Blk W b t cs)(h':Blk W b' t' cs')(hne:t≠t'):b≠b':=by
 rintro rfl;have:=(show W.heap[b]?=_ from h).symm.trans h';simp only[Option.some.injEq,Obj.cells.injEq] at this;exact hne this.2.1
theorem qs.setx{w W:World}{b:Nat}{cs:Array Value}{er:Value}{k:Int}{p:Option Nat}{i:Nat}{v:Value}(h:qs W er k p)(hL:LS w W b cs):qs (W.setCell ⟨b,i,none⟩ v) er k p:=by
 cases p with
 |none=>exact h
 |some q =>obtain⟨N,h1,h2⟩:=h;exact⟨N,h1,h2.other (h2.ne_type hL.x (by decide))⟩
theorem qs.one{W:World}{b:Nat}{cs:Array Value}{er:Value}{k:Int}{p:Option Nat}{i:Nat}{v:Value}(h:qs W er k p)(hL:Blk W b 92 cs):qs (W.setCell ⟨b,i,none⟩ v) er k p:=by
 cases p with
 |none=>exact h
 |some q =>obtain⟨N,h1,h2⟩:=h;exact⟨N,h1,h2.other (h2.ne_type hL (by decide))⟩
theorem qs.setz{w W:World}{b:Nat}{cs:Array Value}{er:Value}{k:Int}{p:Option Nat}{v0 v1 v2 v3 v4 v5 v6:Value}(h:qs W er k p)(hL:LS w W b cs):qs (((((((W.setCell ⟨w.heap.size,0,none⟩ v0).setCell ⟨w.heap.size,1,none⟩ v1).setCell ⟨w.heap.size,2,none⟩ v2).setCell ⟨w.heap.size,3,none⟩ v3).setCell ⟨w.heap.size,4,none⟩ v4).setCell ⟨w.heap.size,5,none⟩ v5).setCell ⟨w.heap.size,6,none⟩ v6) er k p:=by
 have z:=hL.z;exact((((((h.one z).one z.set).one z.set.set).one z.set.set.set).one z.set.set.set.set).one z.set.set.set.set.set).one z.set.set.set.set.set.set
theorem zb.one{W:World}{b:Nat}{v x:Value}{l:List Span}{i:Nat}(h:zb W v l)(hn:v.ownBlock≠some b):zb (W.setCell ⟨b,i,none⟩ x) v l :=
 ⟨h.form,fun j hj=>by
  obtain⟨g,cap,e,hg,c0,c1⟩:=h.cells j hj;have hne:g≠b:=fun e'=>hn (by rw[e,e'];rfl);exact ⟨g,cap,e,by simp [World.setCell];exact hg,(cell_set_other hne).trans c0,(cell_set_other hne).trans c1⟩⟩
theorem zb.all7{W:World}{b:Nat}{v v0 v1 v2 v3 v4 v5 v6:Value}{l:List Span}(h:zb W v l)(hn:v.ownBlock≠some b):zb (((((((W.setCell ⟨b,0,none⟩ v0).setCell ⟨b,1,none⟩ v1).setCell ⟨b,2,none⟩ v2).setCell ⟨b,3,none⟩ v3).setCell ⟨b,4,none⟩ v4).setCell ⟨b,5,none⟩ v5).setCell ⟨b,6,none⟩ v6) v l :=
 ((((((h.one hn).one hn).one hn).one hn).one hn).one hn).one hn
end
section
open Go.RowKit Go.Shelf Sv
attribute [local go_sem] Oper.semAt_some
theorem zgH(s:ByteArray)(w:World) :
  CallsIn Fence.wide 3 Tryz.prog 33 #[.string s] w fun e w'=>e=.returned (.func (.func 55) #[] #[.pointer (some ⟨w.heap.size,0,none⟩)])/\w'=w.alloc (.cells #[.string s] 9):=by
 refine callsIn_of_wp Tryz.func33 rfl trivial ?_ rfl;simp only[Tryz.ntmps33,List.size_toArray,List.length_cons,List.length_nil,Nat.reduceAdd,Nat.reduceSub,Array.replicate_succ,Array.replicate_zero,List.push_toArray,List.append_toArray,List.nil_append,List.cons_append]
 gi_wp2
 go_ret;exact⟨rfl,rfl⟩
theorem Ys{s:ByteArray}{k:Nat}(h:s.size<=k):∀f,qu s f k=[]
 |0=>rfl
 |f+1=>by rw[qu,if_pos h]
theorem J9{s:ByteArray}{k:Nat}(h:k<s.size)(f:Nat):qu s (f+1) k=(if (cutF (s.extract k s.size) 10).1.size=0 then [] else [(k,(cutF (s.extract k s.size) 10).1)])++qu s f (k+(cutF (s.extract k s.size) 10).1.size+1):=by
 rw[qu,if_neg (by omega)]
theorem X0(s:ByteArray):∀(f k:Nat),(qu s f k).length<=f
 |0,_=>by simp[qu]
 |f+1,k=>by
  rw[qu];split
  ·simp
  ·have:=X0 s f (k+(cutF (s.extract k s.size) 10).1.size+1);rw[List.length_append];split<;>simp<;>omega
def Kp1(bt:Nat)(W W':World):Prop:=W'.cell? ⟨bt,0,none⟩=W.cell? ⟨bt,0,none⟩/\W'.cell? ⟨4,0,none⟩=W.cell? ⟨4,0,none⟩
theorem zdJ(s:ByteArray)(m:Int)(W:World)(hs:s.size<=100000)(hm:W.cell? ⟨4,0,none⟩=some (.int .i64 m)) :
  zC 56 #[.string s,.string ⟨#[10]⟩] W fun e w'=>∃b,e=.returned (.tuple #[.string (cutF s 10).1,.string (cutF s 10).2,.bool b])/\∃n,w'=W.drewN n :=
 (Tryz.strings_Cut s ⟨#[10]⟩ m W (by omega) hm).mono fun e w' ⟨he,n,hn⟩=>⟨_,he,n,hn⟩
theorem zdl(l bt:Nat)(s:ByteArray)(hs:s.size<=20000)(J Jx:List Pc->World->Prop)
  (hJd:∀pre W n,J pre W->J pre (W.drewN n))
  (hY:∀ pre x W,J pre W->pre.length<(qu s s.size 0).length->YieldAt Fence.wide (3 - 1) Tryz.prog l #[.int .i64 x.1.1,.string x.1.2] W fun e W' =>
   (e=.returned (.bool true)/\J (pre++[x]) W'/\Kp1 bt W W')\/(e=.returned (.bool false)/\Jx (pre++[x]) W'))
  (W:World) (h0:W.cell? ⟨bt,0,none⟩=some (.string s)) (n:Int) (hn0:W.cell? ⟨4,0,none⟩=some (.int .i64 n)) (hJ:J [] W) :
  CallsIn Fence.wide 3 Tryz.prog 55 #[.func (.yield l) #[] #[],.pointer (some ⟨bt,0,none⟩)] W fun e W'=>(∃v,e=.returned v)/\((∃ys,zt ys=qu s s.size 0/\J ys W')\/(∃pre,zt pre <+: qu s s.size 0/\Jx pre W')):=by
 have HY:=zH hY;have HJD:=zH hJd;clear hY hJd;refine callsIn_of_wp Tryz.func55 rfl trivial ?_ rfl;simp only[Tryz.ntmps55,List.size_toArray,List.length_cons,List.length_nil,Nat.reduceAdd,Nat.reduceSub,Array.replicate_succ,Array.replicate_zero,List.push_toArray,List.append_toArray,List.nil_append,List.cons_append]
 gi_wp2
 gi_loopw [3] (fun p wr=>∃(pre:List Pc) (k f:Nat),p=.int .i64 k/\k<=s.size+1/\s.size<=k+f/\zt pre++qu s f k=qu s s.size 0/\wr.cell? ⟨bt,0,none⟩=some (.string s)/\wr.cell? ⟨4,0,none⟩=some (.int .i64 n)/\J pre wr)
  (fun p _=>s.size+1-(intOf p).toNat)
 case atStart=>exact⟨[],0,s.size,rfl,Nat.zero_le _,by omega,rfl,h0,hn0,hJ⟩
 case round =>
  obtain⟨pre,k,f,rfl,hk,hf,hcut,c0,hn,hJs⟩:=hrel;have HJ:=zH hJs;have HC:=zH hcut;clear hJs hcut;have HN:=zH hn;clear hn
  by_cases hlt:k<s.size
  ·obtain⟨f',rfl⟩:∃f',f=f'+1:=⟨f-1,by omega⟩;have hx:(s.extract k s.size).size=s.size-k:=by rw[ByteArray.size_extract];omega
   have hsz:=(cutF_size (s.extract k s.size) 10).1;have hcut:=HC.out;rw[J9 hlt] at hcut;have HCall:=zH (zdJ (s.extract k s.size) n wr (by omega) HN.out);have i0:(0:Int)<=(k:Int):=by omega
   have i1:(k:Int)<=(s.size:Int):=by omega
   have hsl:=fun W'=>run_slice_string (P:=Tryz.prog) W' 9 s .i64 .i64 (k:Int) (s.size:Int) Tryz.underlying9 i0 i1 (Int.le_refl _);simp only[Int.toNat_natCast] at hsl;generalize (cutF (s.extract k s.size) 10).1=ln at *;generalize (cutF (s.extract k s.size) 10).2=rs at *;have hl2:ln.size<=100000:=by omega
   have hk2:k<=100000:=by omega
   have HX:=zH hcut;clear hcut HC
   gi_wp2_with fail
   refine⟨trivial,?_⟩;refine(callsIn_wide.2 HCall.out).mono ?_;rintro e w1 ⟨b,rfl,nq,rfl⟩;have e0:(wr.drewN nq).cell? ⟨bt,0,none⟩=some (.string s):=c0;have HN1:Hid ((wr.drewN nq).cell? ⟨4,0,none⟩=some (.int .i64 n)):=HN.out;have HJ1:Hid (J pre (wr.drewN nq)):=HJD.out _ _ nq HJ.out;clear HCall hsl i0 i1 c0 HN HJ
   by_cases hz:ln.size=0
   ·have HX2:Hid (zt pre++qu s f' (k+0+1)=qu s s.size 0):=by have h:=HX.out;rw[if_pos hz,hz] at h;exact h
    obtain rfl:=xv hz;clear HX hz hl2 hsz
    gi_wp2
    refine⟨(fun f h=>by cases h),?_⟩
    gi_wp2
    go_roundw
    case rel=>exact⟨pre,k+1,f',by go_num,by omega,by omega,HX2.out,e0,HN1.out,HJ1.out⟩
    case measure=>simp[intOf];omega
   ·have he1:ln.toList.isEmpty=false:=xr (by omega);have he2:(ln.toList==[])=false:=by rw[beq_eq_false_iff_ne];intro h;rw[h] at he1;cases he1
    have HX2:Hid (zt (pre++[⟨(k,ln),hk2,hl2⟩])++qu s f' (k+ln.size+1)=qu s s.size 0):=by
     have h:=HX.out;rw[if_neg hz] at h;show _=_;rw[zt,List.map_append,List.append_assoc];exact h
    have hlen:pre.length<(qu s s.size 0).length:=by
     have h:=congrArg List.length HX2.out;rw[List.length_append,zt,List.length_map,List.length_append,List.length_cons] at h;omega
    clear HX;obtain⟨fn,tmps,assign,body,hy,hR⟩:=HY.out pre ⟨(k,ln),hk2,hl2⟩ (wr.drewN nq) HJ1.out hlen;dsimp only at hy;have HLEN:=zH hlen;clear hlen
    gi_wp2
    refine hR.mono ?_;rintro e W3 (⟨rfl,hJ3,hk3⟩|⟨rfl,hJx3⟩)
    ·have d0:W3.cell? ⟨bt,0,none⟩=some (.string s):=hk3.1.trans e0;have d2:Hid (W3.cell? ⟨4,0,none⟩=some (.int .i64 n)):=hk3.2.trans HN1.out;have HJ3:=zH hJ3;clear hJ3 hk3
     gi_wp2
     go_roundw
     case rel=>exact⟨pre++[⟨(k,ln),hk2,hl2⟩],k+ln.size+1,f',by go_num,by omega,by omega,HX2.out,d0,d2.out,HJ3.out⟩
     case measure=>simp[intOf];omega
    ·gi_wp2
     refine bodyPost_ret (results_none rfl _ _ _) rfl ?_;exact⟨⟨_,rfl⟩,.inr ⟨_,⟨_,HX2.out⟩,hJx3⟩⟩
  ·have hcut:=HC.out;rw[Ys (by omega),List.append_nil] at hcut;have HX:=zH hcut;clear hcut HC
   gi_wp2
   refine bodyPost_end (results_none rfl _ _ _) rfl ?_;exact⟨⟨_,rfl⟩,.inl ⟨pre,HX.out,HJ.out⟩⟩
theorem zav(W:World)(n:Nat):W.grownBy (W.drewN n) none:=⟨rfl,rfl,rfl,Nat.le_refl _,fun _ _ _=>rfl⟩
theorem ze4(bt:Nat)(s:ByteArray)(hs:s.size<=20000)(w:World)(hbt:bt<w.heap.size)(h1:4<w.heap.size)(c0:w.cell? ⟨bt,0,none⟩=some (.string s))(n:Int)(c2:w.cell? ⟨4,0,none⟩=some (.int .i64 n)) :
  SeqStopsK Fence.wide 3 Tryz.prog 55 #[.pointer (some ⟨bt,0,none⟩)] J2 (Kp1 bt) (fun ys=>zt ys=qu s s.size 0) (fun pre=>zt pre <+: qu s s.size 0) (qu s s.size 0).length w:=fun l J Jx W hW hJ _ hY h0 =>
 zdl l bt s hs J Jx (fun pre W n h=>hJ pre W _ none h (zav W n) (fun r e=>by cases e)) hY W ((hW.cell (p:=⟨bt,0,none⟩) hbt).trans c0) n ((hW.cell (p:=⟨4,0,none⟩) h1).trans c2) h0
theorem Yx{bt:Nat}{A B C:World}(h:Kp1 bt A B)(k:Kp1 bt B C):Kp1 bt A C:=⟨k.1.trans h.1,k.2.trans h.2⟩
theorem zfM{bt:Nat}{w:World}(hbt:bt<w.heap.size)(h1:4<w.heap.size)(W:World)(l:Nat)(o o':Obj)(hl:w.heap.size<=l)(_:W.heap[l]?=some o)(_:o.isCells=false)(_:o.isWalk=false):Kp1 bt W (W.putObj l o') :=
 ⟨ZQ (by omega),ZQ (by omega)⟩
theorem YK{bt B:Nat}{W W':World}(h:Below B W W')(h1:bt<B)(h3:4<B):Kp1 bt W W':=⟨h.cell (p:=⟨bt,0,none⟩) h1,h.cell (p:=⟨4,0,none⟩) h3⟩
theorem JP{bt b i:Nat}{W W':World}{v:Value}(h:Kp1 bt W W')(h1:bt≠b)(h3:4≠b):Kp1 bt W (W'.setCell ⟨b,i,none⟩ v):=⟨(cell_set_other h1).trans h.1,(cell_set_other h3).trans h.2⟩
end
end Go.Proofs.YtlamemjfaogjmaaGreatDoor
