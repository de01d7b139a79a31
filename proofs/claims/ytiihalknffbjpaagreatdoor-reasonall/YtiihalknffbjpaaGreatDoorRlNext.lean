/- The reference: a text up to the first blank, and what is behind it. -/
import Derived.Test.YtiihalknffbjpaaGreatDoorClWithin
import Derived.Shelf.Strings.OnBuilder
import Derived.Shelf.Strings.Replace
import Derived.Shelf.Strings.BuilderK
namespace Go.Proofs.YtiihalknffbjpaaGreatDoor
set_option maxHeartbeats 4000000
set_option maxRecDepth 100000
section
open Go.RowKit Go.Extern.Stop Go.Stop Go.Extern
namespace Errs
theorem zqy(v:Value)(w:World):(ReflectliteType.typeOf #[.iface 260 v]).run Tryz.prog w=.ok (.iface 362 (.agg #[.pointer (some ⟨12,260,none⟩)])) w:=by kernel_rfl
theorem zhM(w:World):(ReflectliteType.relation "AssignableTo" ReflectliteType.assignableTo #[.agg #[.pointer (some ⟨12,260,none⟩)],.iface 362 (.agg #[.pointer (some ⟨12,57,none⟩)])]).run Tryz.prog w=.ok (.bool false) w:=by kernel_rfl
theorem zhb(h:Value)(w:World):(Go.method 613 260 h "Unwrap").run Tryz.prog w=.ok (385,h) w:=by kernel_rfl
theorem zr7(v:Value)(w:World):(Instr.typeAssert (.iface 260 v) 31 367 true).run Tryz.prog w=.ok (.tuple #[.nilIface,.bool false]) w:=run_typeAssert_lacksB Tryz.underlying367 (by kernel_rfl) (by kernel_rfl) _ 31 w
theorem zka(v:Value)(w:World):(Instr.typeAssert (.iface 260 v) 31 334 true).run Tryz.prog w=.ok (.tuple #[.iface 260 v,.bool true]) w:=run_typeAssert_hasB Tryz.underlying334 (by kernel_rfl) _ 31 w
theorem as_at(n:Int)(ba:Nat)(t:Addr)(old:Value)(w:World)(hg:w.cell? ⟨2,0,none⟩=some (.iface 362 (.agg #[.pointer (some ⟨12,31,none⟩)])))(ht0:w.cell? t=some old)(hf0:w.frozen? t=false)(hba:w.cell? ⟨ba,0,none⟩=some (.int .i64 n)) :
  zC 105 #[.iface 260 (.pointer (some ⟨ba,0,none⟩)),.iface 197 (.pointer (some t))] w fun ev w'=>ev=.returned (.bool true)/\w'=((((w.alloc (.cells #[.pointer (some t)] 197)).alloc (.cells #[.pointer (some ⟨12,197,none⟩),.pointer (some ⟨w.heap.size,0,none⟩),.int .u64 150] 298)).alloc (.cells #[.pointer (some ⟨12,197,none⟩),.pointer (some ⟨w.heap.size,0,none⟩),.int .u64 150] 298)).alloc (.cells #[.int .i64 n] 57)).setCell t (.int .i64 n):=by
 have h6:=@run_callFunc_extern Tryz.prog 180 _ (fun args=>ReflectliteValue.unpack (args.getD 0 (.tuple #[]))) Tryz.func180 (by kernel_rfl) (by kernel_rfl) (by kernel_rfl) (by kernel_rfl);have h7:=@run_callFunc_extern Tryz.prog 181 _ (ReflectliteValue.methodAny (ReflectliteValue.valueError "reflectlite.Value.Type" 0) (fun t _ _ _=>ReflectliteType.toType t)) Tryz.func181 (by kernel_rfl) (by kernel_rfl) (by kernel_rfl) (by kernel_rfl);have h8:=@run_callFunc_extern Tryz.prog 182 _ (ReflectliteValue.method (ReflectliteValue.valueError "reflectlite.Value.IsNil" 0) ReflectliteValue.isNil) Tryz.func182 (by kernel_rfl) (by kernel_rfl) (by kernel_rfl) (by kernel_rfl);have h27:=@run_callFunc_extern Tryz.prog 379 _ (ReflectliteType.abiMethod fun t=>do pure (.int .u8 (<-Rtype.kind t))) Tryz.func379 (by kernel_rfl) (by kernel_rfl) (by kernel_rfl) (by kernel_rfl);have h37:=@run_callFunc_extern Tryz.prog 392 _ (ReflectliteType.method ReflectliteType.elem) Tryz.func392 (by kernel_rfl) (by kernel_rfl) (by kernel_rfl) (by kernel_rfl);have h38:=@run_callFunc_extern Tryz.prog 393 _ (ReflectliteType.relation "Implements" ReflectliteType.implements_) Tryz.func393 (by kernel_rfl) (by kernel_rfl) (by kernel_rfl) (by kernel_rfl);have h10:=@run_callFunc_extern Tryz.prog 242 _ ReflectliteType.typeOf Tryz.func242 (by kernel_rfl) (by kernel_rfl) (by kernel_rfl) (by kernel_rfl);have h35:=@run_callFunc_extern Tryz.prog 390 _ (ReflectliteType.relation "AssignableTo" ReflectliteType.assignableTo) Tryz.func390 (by kernel_rfl) (by kernel_rfl) (by kernel_rfl) (by kernel_rfl);have h11:=@run_callFunc_extern Tryz.prog 243 _ (ReflectliteValue.method (ReflectliteValue.valueError "reflectlite.Value.Elem" 0) ReflectliteValue.elem) Tryz.func243 (by kernel_rfl) (by kernel_rfl) (by kernel_rfl) (by kernel_rfl);have h12:=@run_callFunc_extern Tryz.prog 244 _ ReflectliteValue.set Tryz.func244 (by kernel_rfl) (by kernel_rfl) (by kernel_rfl) (by kernel_rfl);have tO:=zk9;have mA:=zcc;have a25:=zeV;have v25:=ziY;have f6:=zim;have f7:=zrH;have mK:=zfz;have mE:=zfx;have mI:=zcC;have k27:=zq3;have k25:=zrG;have e27:=zrl;have i25:=zeB;have n8:=zoJ ⟨w.heap.size,0,none⟩ t ((w.alloc (.cells #[.pointer (some t)] 197)).alloc (.cells #[.pointer (some ⟨12,197,none⟩),.pointer (some ⟨w.heap.size,0,none⟩),.int .u64 150] 298)) (by simp);have hlt:2<w.heap.size:=by
  rcases Nat.lt_or_ge 2 w.heap.size with h|h
  ·exact h
  ·simp[World.cell?,Array.getElem?_eq_none h] at hg
 have hg2:((w.alloc (.cells #[.pointer (some t)] 197)).alloc (.cells #[.pointer (some ⟨12,197,none⟩),.pointer (some ⟨w.heap.size,0,none⟩),.int .u64 150] 298)).cell? ⟨2,0,none⟩=some (.iface 362 (.agg #[.pointer (some ⟨12,31,none⟩)])):=by
  rw[World.cell?_alloc_lt _ _ ⟨2,0,none⟩ (by simp only[World.size_alloc];omega),World.cell?_alloc_lt _ _ ⟨2,0,none⟩ hlt];exact hg
 have htl:t.block<w.heap.size:=by
  rcases Nat.lt_or_ge t.block w.heap.size with h|h
  ·exact h
  ·simp[World.cell?,Array.getElem?_eq_none h] at ht0
 have el:=zoI ⟨w.heap.size,0,none⟩ t (((w.alloc (.cells #[.pointer (some t)] 197)).alloc (.cells #[.pointer (some ⟨12,197,none⟩),.pointer (some ⟨w.heap.size,0,none⟩),.int .u64 150] 298)).alloc (.cells #[.pointer (some ⟨12,197,none⟩),.pointer (some ⟨w.heap.size,0,none⟩),.int .u64 150] 298)) (by rw[World.cell?_alloc_lt _ _ ⟨w.heap.size,0,none⟩ (by simp;omega)];simp);have st:=zsv t ⟨w.heap.size+1+1+1,0,none⟩ n old ((((w.alloc (.cells #[.pointer (some t)] 197)).alloc (.cells #[.pointer (some ⟨12,197,none⟩),.pointer (some ⟨w.heap.size,0,none⟩),.int .u64 150] 298)).alloc (.cells #[.pointer (some ⟨12,197,none⟩),.pointer (some ⟨w.heap.size,0,none⟩),.int .u64 150] 298)).alloc (.cells #[.int .i64 n] 57))
  (by rw[World.cell?_alloc_at _ _ _ _ (by simp)];rfl)
  (by rw[World.cell?_alloc_lt _ _ t (by simp;omega),World.cell?_alloc_lt _ _ t (by simp;omega),World.cell?_alloc_lt _ _ t (by simp;omega),World.cell?_alloc_lt _ _ t htl];exact ht0)
  (by rw[World.frozen?_alloc_old _ _ t (by simp;omega),World.frozen?_alloc_old _ _ t (by simp;omega),World.frozen?_alloc_old _ _ t (by simp;omega),World.frozen?_alloc_old _ _ t (Nat.ne_of_lt htl)];exact hf0)
 have hbl:ba<w.heap.size:=by
  rcases Nat.lt_or_ge ba w.heap.size with h|h
  ·exact h
  ·simp[World.cell?,Array.getElem?_eq_none h] at hba
 have hb3:(((w.alloc (.cells #[.pointer (some t)] 197)).alloc (.cells #[.pointer (some ⟨12,197,none⟩),.pointer (some ⟨w.heap.size,0,none⟩),.int .u64 150] 298)).alloc (.cells #[.pointer (some ⟨12,197,none⟩),.pointer (some ⟨w.heap.size,0,none⟩),.int .u64 150] 298)).cell? ⟨ba,0,none⟩=some (.int .i64 n):=by
  rw[World.cell?_alloc_lt _ _ ⟨ba,0,none⟩ (by simp only[World.size_alloc];omega),World.cell?_alloc_lt _ _ ⟨ba,0,none⟩ (by simp only[World.size_alloc];omega),World.cell?_alloc_lt _ _ ⟨ba,0,none⟩ hbl];exact hba
 have tA:=zqy;have aA:=zhM;have mU:=zhb;have n1:=zr7;have y1:=zka;go_enter Tryz.func105,Tryz.ntmps105;go_wp2;refine wp_loop_rounds 2 ?_;rw[rounds_succ];go_wp2;rw[rounds_succ];go_wp2;go_ret;exact⟨rfl,rfl⟩
end Errs
theorem zkA(n:Int)(ba:Nat)(w:World)(hg:zg6 w)(hba:w.cell? ⟨ba,0,none⟩=some (.int .i64 n)) :
  zR 39 #[.iface 260 (.pointer (some ⟨ba,0,none⟩))] w (.int .i64 n):=by
 have hbl:ba<w.heap.size:=by
  rcases Nat.lt_or_ge ba w.heap.size with h|h
  ·exact h
  ·simp[World.cell?,Array.getElem?_eq_none h] at hba
 have H:=Errs.as_at n ba ⟨w.heap.size,0,none⟩ (.int .i64 0) (w.alloc (.cells #[.int .i64 0] 57)) (hg.below (zF.alloc zN _)) (ze5 _ _ _) (zhf _ _ _) ((World.cell?_alloc_lt _ _ ⟨ba,0,none⟩ hbl).trans hba);clear hba;go_enter Tryz.func39,Tryz.ntmps39;go_wp2_with fail;refine H.mono ?_;rintro e w' ⟨rfl,hw⟩;have hc:w'.cell? ⟨w.heap.size,0,none⟩=some (.int .i64 n):=by
  rw[hw];refine World.cell?_setCell_same' _ _ _ ?_;rw[World.cell?_alloc_lt _ _ ⟨w.heap.size,0,none⟩ (by simp;omega),World.cell?_alloc_lt _ _ ⟨w.heap.size,0,none⟩ (by simp;omega),World.cell?_alloc_lt _ _ ⟨w.heap.size,0,none⟩ (by simp;omega),World.cell?_alloc_lt _ _ ⟨w.heap.size,0,none⟩ (by simp),ze5];rfl
 have hb:zB w w':=by
  rw[hw];exact(((((zF.alloc zN _).alloc (by simp) _).alloc (by simp;omega) _).alloc (by simp;omega) _).alloc (by simp;omega) _).setCell zN _
 clear H hw;go_wp2;go_ret;exact⟨rfl,hb⟩
theorem zkj(w:World):zC 140 #[.nilIface] w fun e w'=>e=.returned (.tuple #[.int .i64 0,.int .i64 (-1)])/\w=w':=by
 go_enter Tryz.func140,Tryz.ntmps140;go_wp2_with fail;refine(znK _).mono ?_;rintro e w' ⟨rfl,rfl⟩;go_wp2_with fail;refine wp_loop_rounds 1 ?_;rw[rounds_succ];go_wp2;go_ret2;exact⟨rfl,rfl⟩
theorem zsw(n:Int)(w:World):(Instr.typeAssert (.iface 57 (.int .i64 n)) 31 260 true).run Tryz.prog w=.ok (.tuple #[.pointer none,.bool false]) w:=by kernel_rfl
theorem zrn(b:Nat)(w:World):(Instr.typeAssert (.iface 260 (.pointer (some ⟨b,0,none⟩))) 31 260 true).run Tryz.prog w=.ok (.tuple #[.pointer (some ⟨b,0,none⟩),.bool true]) w:=by kernel_rfl
theorem znc(n:Int)(w:World):(Instr.typeAssert (.iface 57 (.int .i64 n)) 31 334 true).run Tryz.prog w=.ok (.tuple #[.nilIface,.bool false]) w:=run_typeAssert_lacksB Tryz.underlying334 (by kernel_rfl) (by kernel_rfl) _ 31 w
theorem zh9(n:Int)(w:World)(hg:zg6 w):zR 140 #[.iface 57 (.int .i64 n)] w (.tuple #[.int .i64 n,.int .i64 (-1)]):=by
 have H:=zd2 n w hg;have h1:=zsw n;have h2:=znc n;go_enter Tryz.func140,Tryz.ntmps140;go_wp2_with fail;refine H.mono ?_;rintro e w' ⟨rfl,hb⟩;clear H;go_wp2_with fail;refine wp_loop_rounds 1 ?_;rw[rounds_succ];go_wp2;go_ret2;exact⟨rfl,hb⟩
theorem znL(n pl:Int)(b:Nat)(w:World)(hg:zg6 w)(h0:w.cell? ⟨b,0,none⟩=some (.int .i64 n))(h1:w.cell? ⟨b,1,none⟩=some (.int .i64 pl)) :
  zR 140 #[.iface 260 (.pointer (some ⟨b,0,none⟩))] w (.tuple #[.int .i64 n,.int .i64 pl]):=by
 have hbl:b<w.heap.size:=by
  rcases Nat.lt_or_ge b w.heap.size with h|h
  ·exact h
  ·simp[World.cell?,Array.getElem?_eq_none h] at h0
 have H:=zkA n b w hg h0;have h2:=zrn b;have H1:=zH h1;clear h1 h0;go_enter Tryz.func140,Tryz.ntmps140;go_wp2_with fail;refine H.mono ?_;rintro e w' ⟨rfl,hb⟩;have c1:w'.cell? ⟨b,1,none⟩=some (.int .i64 pl):=(hb.cell (p:=⟨b,1,none⟩) hbl).trans H1.out;clear H;go_wp2_with fail;refine wp_loop_rounds 1 ?_;rw[rounds_succ];go_wp2_with fail;go_quiet (fail);have hbn:zB w (w'.drewN nq):=hb.trans ⟨rfl,rfl,rfl,Nat.le_refl _,fun _ _=>rfl⟩;have HBN:=zH hbn;clear hbn;go_wp2;go_ret2;exact⟨rfl,HBN.out⟩
theorem zkB(e:Value)(m pl:Int)(w:World)(hg:zg6 w)(h:zen w e m pl):zR 140 #[e] w (.tuple #[.int .i64 m,.int .i64 pl]):=by
 rcases h with ⟨rfl,rfl,rfl⟩|⟨_,rfl,rfl⟩|⟨_,b,_,rfl,h0,h1⟩
 ·exact(zkj w).mono fun e w' ⟨he,hw⟩=>⟨he,hw▸Below.refl _ _⟩
 ·exact zh9 m w hg
 ·exact znL m pl b w hg h0 h1
theorem zdN(k:Int)(w:World):zR 61 #[.int .i64 k] w (.agg #[.int .i64 k,.int .i64 (-1)]):=by
 go_enter Tryz.func61,Tryz.ntmps61;go_wp2;exact bodyPost_ret (v:=.agg #[.int .i64 k,.int .i64 (-1)]) (by simp[results,Tryz.results61,go_sem]) rfl ⟨rfl,zF.alloc zN _⟩
theorem zqX(m k pl pk:Int)(v:Value)(w:World)(hg:zg6 w)(hv:zen w v m pl) :
  zR 63 #[v,.agg #[.int .i64 k,.int .i64 pk]] w (.bool (m==k&&pl==pk)):=by
 have HH:Hid (∀W:World,zB w W->zR 140 #[v] W (.tuple #[.int .i64 m,.int .i64 pl])):=fun W hW=>zkB v m pl W (hg.below hW) (hv.below hW);clear hv hg;have hb1:zB w (w.alloc (.cells #[.int .i64 k,.int .i64 pk] 96)):=zF.alloc zN _;have fin:∀q r:Bool,(m==k)=q->(pl==pk)=r->zR 63 #[v,.agg #[.int .i64 k,.int .i64 pk]] w (.bool (q&&r)):=by
  intro q r hq hr;cases q<;>cases r
  all_goals
   go_enter Tryz.func63,Tryz.ntmps63;go_wp2_with fail;refine(HH.out _ hb1).mono ?_;rintro e w2 ⟨rfl,hb2⟩;have c0:w2.cell? ⟨w.heap.size,0,none⟩=some (.int .i64 k):=(hb2.cell (p:=⟨w.heap.size,0,none⟩) (by simp)).trans (by simp);have c1:w2.cell? ⟨w.heap.size,1,none⟩=some (.int .i64 pk):=(hb2.cell (p:=⟨w.heap.size,1,none⟩) (by simp)).trans (by simp);have hb3:zB w w2:=hb1.trans (hb2.mono (by simp));clear hb2;go_wp2;go_ret;exact⟨rfl,hb3⟩
 exact fin _ _ rfl rfl
end
section
open Go.RowKit Go.Shelf Sv
structure Lw(w:World):Prop where
 lb:Lb w
 wd:zcz w
theorem Lw.below{w w':World}(h:Lw w)(hb:zB w w'):Lw w':=⟨h.lb.below hb,h.wd.below hb (by have:=h.lb.big;omega)⟩
theorem zdQ(s:ByteArray)(c:UInt8)(W:World)(hs:s.size<=100000)(hw:Lb W) :
  zC 132 #[.string s,.string ⟨#[c]⟩] W fun e w'=>∃b,e=.returned (.tuple #[.string (zan s c).1,.string (zan s c).2,.bool b])/\zB W w':=by
 obtain⟨m,hm⟩:=hw.ml;refine(Tryz.strings_Cut s ⟨#[c]⟩ m W (by omega) hm).mono fun e w' ⟨he,n,hn⟩=>⟨_,he,?_⟩;subst hn;exact⟨rfl,rfl,rfl,Nat.le_refl _,fun _ _=>rfl⟩
theorem zjv(s:ByteArray)(w:World)(hs:1000<s.size) :
  zR 120 #[.string s] w (.tuple #[.agg #[.slice none 0 0],.iface 57 (.int .i64 4)]):=by
 have hl:(1000:Int)<(s.size:Int):=by omega
 generalize hn:(s.size:Int)=n at *;clear hs;go_enter Tryz.func120,Tryz.ntmps120;go_wp2;have k0:=((Blk.new w 128 #[.slice none 0 0]).alloc (.cells #[.iface 57 (.int .i64 4)] 31));have k1:=(Blk.new (w.alloc (.cells #[.slice none 0 0] 128)) 31 #[.iface 57 (.int .i64 4)]);rw[World.size_alloc] at k1;have hB:zB w ((w.alloc (.cells #[.slice none 0 0] 128)).alloc (.cells #[.iface 57 (.int .i64 4)] 31)):=((Below.refl _ w).alloc zN _).alloc (by simp only[World.size_alloc];omega) _;generalize (w.alloc (.cells #[.slice none 0 0] 128)).alloc (.cells #[.iface 57 (.int .i64 4)] 31)=WF at *;have r0:=k0.cell 0;have r3:=k1.cell 0;refine bodyPost_ret (v:=.tuple #[.agg #[.slice none 0 0],.iface 57 (.int .i64 4)]) (by simp[results,Tryz.f120,go_sem,r0,r3]) rfl ?_;exact⟨rfl,hB⟩
def ze3(w:World)(er:Value)(k:Int):Option Nat->Prop
 |none=>er=.iface 57 (.int .i64 k)
 |some q=>∃N,er=.iface 260 (.pointer (some ⟨N,0,none⟩))/\Blk w N 261 #[.int .i64 k,.int .i64 q]
theorem ze3.below{w w':World}{er:Value}{k:Int}{p:Option Nat}(h:ze3 w er k p)(hb:zB w w'):ze3 w' er k p:=by
 cases p with
 |none=>exact h
 |some q =>obtain⟨N,h1,h2⟩:=h;exact⟨N,h1,h2.below hb h2.lt⟩
theorem ze3.form{w:World}{er:Value}{k:Int}{p:Option Nat}(h:ze3 w er k p):∃t v,er=.iface t v:=by
 cases p with
 |none=>exact⟨_,_,h⟩
 |some q=>obtain⟨N,h1,_⟩:=h;exact⟨_,_,h1⟩
def zre(r:Except (Int × Option Nat) (List Span))(w':World)(v er:Value):Prop :=
 match r with
 |.ok l=>er=.nilIface/\zaO w' v l/\Rg l
 |.error (k,p)=>v=.slice none 0 0/\ze3 w' er k p
theorem zqp(s:ByteArray)(w:World)(hs:s.size<=100000)(hw:Lb w) :
  zC 120 #[.string s] w fun e w'=>∃a n c er,e=.returned (.tuple #[.agg #[.slice a n c],er])/\zre (zjd s) w' (.slice a n c) er/\(∀g,(Value.slice a n c).ownBlock=some g->w.heap.size<=g)/\zB w w':=by
 unfold zjd
 by_cases h:1000<s.size
 ·rw[if_pos h];exact(zjv s w h).mono fun e w' ⟨he,hb⟩=>⟨none,0,0,_,he,⟨rfl,rfl⟩,(fun g hg=>by simp[Value.ownBlock] at hg),hb⟩
 ·rw[if_neg h];refine(zkQ s w (by omega) hw).mono fun e w' h=>?_;unfold zeU at h;cases hx:zcm s with
  |ok l =>rw[hx] at h;obtain⟨v',he,h1,h2,h3⟩:=h;obtain⟨a',c',rfl⟩:=h1.form;exact⟨a',_,c',_,he,⟨rfl,h1,zgV hx⟩,h2,h3⟩
  |error e2 =>obtain⟨k,q⟩:=e2;rw[hx] at h;obtain⟨N,he,h1,h2,h3⟩:=h;exact⟨none,0,0,_,he,⟨rfl,N,rfl,h1⟩,(fun g hg=>by simp[Value.ownBlock] at hg),h3⟩
abbrev z7:Array Value:=#[.int .i64 0,.string ⟨#[]⟩,.int .i64 0,.int .i64 0,.int .i64 0,.string ⟨#[]⟩,.slice none 0 0]
def zn5(w:World)(r:Except (Int × Option Nat) Ln)(e:Ending)(w':World):Prop :=
 match r with
 |.ok x=>∃v,e=.returned (.tuple #[.agg #[.int .i64 x.kind,.string x.name,.int .i64 x.a,.int .i64 x.b,.int .i64 x.c,.string x.other,v],.nilIface])/\zaO w' v x.rng/\Rg x.rng/\(∀g,v.ownBlock=some g->w.heap.size<=g)/\zB w w'
 |.error (k,p)=>∃er,e=.returned (.tuple #[.agg z7,er])/\ze3 w' er k p/\zB w w'
structure LS(w W:World)(b:Nat)(cs:Array Value):Prop where
 z:Blk W w.heap.size 130 z7
 x:Blk W b 130 cs
 ne:w.heap.size<b
 B:zB w W
theorem LS.step{w W W':World}{b:Nat}{cs:Array Value}(h:LS w W b cs)(hb:zB W W'):LS w W' b cs:=⟨h.z.below hb h.z.lt,h.x.below hb h.x.lt,h.ne,zT h.B hb⟩
theorem LS.set{w W:World}{b:Nat}{cs:Array Value}(h:LS w W b cs)(i:Nat)(v:Value):LS w (W.setCell ⟨b,i,none⟩ v) b (cs.setIfInBounds i v) :=
 ⟨h.z.other (by have:=h.ne;omega),h.x.set,h.ne,h.B.setCell (p:=⟨b,i,none⟩) (Nat.le_of_lt h.ne) _⟩
theorem Blk.ne_type{W:World}{b b':Nat}{t t':TypeId}{cs cs':Array Value}(h:Blk W b t cs)(h':Blk W b' t' cs')(hne:t≠t'):b≠b':=by
 rintro rfl;have:=(show W.heap[b]?=_ from h).symm.trans h';simp only[Option.some.injEq,Obj.cells.injEq] at this;exact hne this.2.1
theorem ze3.setx{w W:World}{b:Nat}{cs:Array Value}{er:Value}{k:Int}{p:Option Nat}{i:Nat}{v:Value}(h:ze3 W er k p)(hL:LS w W b cs):ze3 (W.setCell ⟨b,i,none⟩ v) er k p:=by
 cases p with
 |none=>exact h
 |some q =>obtain⟨N,h1,h2⟩:=h;exact⟨N,h1,h2.other (h2.ne_type hL.x (by decide))⟩
theorem ze3.one{W:World}{b:Nat}{cs:Array Value}{er:Value}{k:Int}{p:Option Nat}{i:Nat}{v:Value}(h:ze3 W er k p)(hL:Blk W b 130 cs):ze3 (W.setCell ⟨b,i,none⟩ v) er k p:=by
 cases p with
 |none=>exact h
 |some q =>obtain⟨N,h1,h2⟩:=h;exact⟨N,h1,h2.other (h2.ne_type hL (by decide))⟩
theorem ze3.setz{w W:World}{b:Nat}{cs:Array Value}{er:Value}{k:Int}{p:Option Nat}{v0 v1 v2 v3 v4 v5 v6:Value}(h:ze3 W er k p)(hL:LS w W b cs):ze3 (((((((W.setCell ⟨w.heap.size,0,none⟩ v0).setCell ⟨w.heap.size,1,none⟩ v1).setCell ⟨w.heap.size,2,none⟩ v2).setCell ⟨w.heap.size,3,none⟩ v3).setCell ⟨w.heap.size,4,none⟩ v4).setCell ⟨w.heap.size,5,none⟩ v5).setCell ⟨w.heap.size,6,none⟩ v6) er k p:=by
 have z:=hL.z;exact((((((h.one z).one z.set).one z.set.set).one z.set.set.set).one z.set.set.set.set).one z.set.set.set.set.set).one z.set.set.set.set.set.set
theorem zaO.one{W:World}{b:Nat}{v x:Value}{l:List Span}{i:Nat}(h:zaO W v l)(hn:v.ownBlock≠some b):zaO (W.setCell ⟨b,i,none⟩ x) v l :=
 ⟨h.form,fun j hj=>by
  obtain⟨g,cap,e,hg,c0,c1⟩:=h.cells j hj;have hne:g≠b:=fun e'=>hn (by rw[e,e'];rfl);exact ⟨g,cap,e,by simp [World.setCell];exact hg,(zab hne).trans c0,(zab hne).trans c1⟩⟩
theorem zaO.all7{W:World}{b:Nat}{v v0 v1 v2 v3 v4 v5 v6:Value}{l:List Span}(h:zaO W v l)(hn:v.ownBlock≠some b):zaO (((((((W.setCell ⟨b,0,none⟩ v0).setCell ⟨b,1,none⟩ v1).setCell ⟨b,2,none⟩ v2).setCell ⟨b,3,none⟩ v3).setCell ⟨b,4,none⟩ v4).setCell ⟨b,5,none⟩ v5).setCell ⟨b,6,none⟩ v6) v l :=
 ((((((h.one hn).one hn).one hn).one hn).one hn).one hn).one hn
end
namespace Go.Proofs
open Go.Shelf
def Tryz.lays137_ren:Go.Shelf.Ren:=⟨fun|137=>204|217=>269|266=>310|n=>n,fun|9=>9|5=>5|3=>3|n=>n,fun|n=>n⟩
theorem Tryz.lays137:Go.Proofs.Lays.n137 Tryz.prog Tryz.lays137_ren:={
 mixed:=by kernel_rfl
 f137:=zK Tryz.func204 (by kernel_rfl)
 f217:=zK Tryz.func269 (by kernel_rfl)
 f266:=zK Tryz.func310 (by kernel_rfl)
 t3:=Tryz.underlying3
 a3:=Tryz.isAgg3
 z3:=Tryz.sizeOf3
 v3:=Tryz.zeroValue3
 t5:=Tryz.underlying5
 a5:=Tryz.isAgg5
 z5:=Tryz.sizeOf5
 v5:=Tryz.zeroValue5
 t9:=Tryz.underlying9
 a9:=Tryz.isAgg9
 z9:=Tryz.sizeOf9
 v9:=Tryz.zeroValue9 }
open Go.RowKit in
theorem Tryz.strings_IndexByte(s:ByteArray)(c:Int)(w:World) :
  zC 204 #[.string s,.int .u8 c] w fun e w'=>e=.returned (.int .i64 (Lib.indexByte s.data.toList c.toNat.toUInt8))/\w'=w:=Any.strings_IndexByte Tryz.lays137 s c w
def Tryz.lays146_ren:Go.Shelf.Ren:=⟨fun|146=>113|221=>187|268=>249|138=>207|143=>250|195=>273|197=>257|218=>274|219=>272|260=>302|217=>269|225=>313|224=>314|267=>315|266=>310|314=>349|n=>n,fun|9=>9|31=>167|3=>3|4=>4|0=>0|105=>387|21=>21|5=>5|46=>48|119=>444|139=>447|138=>446|146=>461|51=>417|n=>n,fun|1=>5|3=>6|4=>7|n=>n⟩
theorem Tryz.lays146:Go.Proofs.Lays.n146 Tryz.prog Tryz.lays146_ren:={
 mixed:=by kernel_rfl
 f138:=zK Tryz.func207 (by kernel_rfl)
 f143:=zK Tryz.func250 (by kernel_rfl)
 f146:=zK Tryz.func113 (by kernel_rfl)
 f195:=zK Tryz.func273 (by kernel_rfl)
 f197:=zK Tryz.func257 (by kernel_rfl)
 f217:=zK Tryz.func269 (by kernel_rfl)
 f218:=zK Tryz.func274 (by kernel_rfl)
 f219:=zK Tryz.func272 (by kernel_rfl)
 f221:=zK Tryz.func187 (by kernel_rfl)
 f224:=zK Tryz.func314 (by kernel_rfl)
 f225:=zK Tryz.func313 (by kernel_rfl)
 f260:=zK Tryz.func302 (by kernel_rfl)
 f266:=zK Tryz.func310 (by kernel_rfl)
 f267:=zK Tryz.func315 (by kernel_rfl)
 f268:=zK Tryz.func249 (by kernel_rfl)
 f314:=zK Tryz.func349 (by kernel_rfl)
 t0:=Tryz.underlying0
 a0:=Tryz.isAgg0
 z0:=Tryz.sizeOf0
 v0:=Tryz.zeroValue0
 t3:=Tryz.underlying3
 a3:=Tryz.isAgg3
 z3:=Tryz.sizeOf3
 v3:=Tryz.zeroValue3
 t4:=Tryz.underlying4
 a4:=Tryz.isAgg4
 z4:=Tryz.sizeOf4
 v4:=Tryz.zeroValue4
 t5:=Tryz.underlying5
 a5:=Tryz.isAgg5
 z5:=Tryz.sizeOf5
 v5:=Tryz.zeroValue5
 t9:=Tryz.underlying9
 a9:=Tryz.isAgg9
 z9:=Tryz.sizeOf9
 v9:=Tryz.zeroValue9
 t21:=Tryz.underlying21
 a21:=Tryz.isAgg21
 z21:=Tryz.sizeOf21
 v21:=Tryz.zeroValue21
 t31:=Tryz.underlying167
 a31:=Tryz.isAgg167
 z31:=Tryz.sizeOf167
 v31:=Tryz.zeroValue167
 t46:=Tryz.underlying48
 a46:=Tryz.isAgg48
 z46:=Tryz.sizeOf48
 v46:=Tryz.zeroValue48
 t51:=Tryz.underlying417
 a51:=Tryz.isAgg417
 z51:=Tryz.sizeOf417
 v51:=Tryz.zeroValue417
 t105:=Tryz.underlying387
 a105:=Tryz.isAgg387
 z105:=Tryz.sizeOf387
 v105:=Tryz.zeroValue387
 t119:=Tryz.underlying444
 a119:=Tryz.isAgg444
 z119:=Tryz.sizeOf444
 t138:=Tryz.underlying446
 a138:=Tryz.isAgg446
 z138:=Tryz.sizeOf446
 v138:=Tryz.zeroValue446
 t139:=Tryz.underlying447
 a139:=Tryz.isAgg447
 z139:=Tryz.sizeOf447
 v139:=Tryz.zeroValue447
 t146:=Tryz.underlying461
 a146:=Tryz.isAgg461
 z146:=Tryz.sizeOf461
 v146:=Tryz.zeroValue461
 g1:=by kernel_rfl
 g3:=by kernel_rfl
 g4:=by kernel_rfl }
open Go.RowKit Go.Lib in
theorem Tryz.strings_Split(s sep:ByteArray)(m:Int)(w:World)(hs:s.size<4294967281)(hm:w.cell? ⟨5,0,none⟩=some (.int .i64 m))(h1:1<=sep.size) :
  zC 113 #[.string s,.string sep] w fun e w' =>
   e=.returned (.slice (some ⟨w.heap.size,0,none⟩) (Lib.countB s sep+1) (Lib.countB s sep+1))/\w'=w.alloc (.cells ((Lib.splitB sep 0 (Lib.countB s sep) s).map Value.string).toArray 9):=Any.strings_Split Tryz.lays146 (by kernel_rfl) s sep m w hs hm h1
end Go.Proofs
section
open Go.RowKit Go.Shelf Sv
def ptx(n:Nat):List UInt8:=Lib.itoa (n:Int)
structure zo2(n:Nat):Prop where
 tells:partF (ptx n)=.ok n
 digit:∀x∈ptx n,48<=x/\x<=57
 some:ptx n≠[]
 short:(ptx n).length<=3
theorem zo2.not{n:Nat}(h:zo2 n){c:UInt8}(hc:c<48\/57<c):c∉ptx n:=fun e=>by
 have:=h.digit c e;rcases hc with hc|hc
 ·exact absurd hc (UInt8.not_lt.2 this.1)
 ·exact absurd hc (UInt8.not_lt.2 this.2)
theorem zcS{s:ByteArray}{l:List UInt8}(h:s.data.toList=l):s=⟨l.toArray⟩:=by
 obtain⟨d⟩:=s;subst h;simp
theorem zmO(l:List UInt8)(i j:Nat):((⟨l.toArray⟩:ByteArray).extract i j).data.toList=(l.take j).drop i:=by
 rw[ByteArray.data_extract];simp[List.take_drop];rcases Nat.le_total i j with h|h
 ·rw[Nat.add_sub_cancel' h]
 ·rw[List.drop_of_length_le (by simp;omega),List.drop_of_length_le (by simp;omega)]
end
section
open Go.RowKit Go.Shelf Sv
theorem ba_ext{s t:ByteArray}(h:s.data.toList=t.data.toList):s=t:=by
 rw[zcS h,<-zcS (s:=t) rfl]
theorem zcn(s:ByteArray)(i j:Nat):(s.extract i j).data.toList=(s.data.toList.take j).drop i:=by
 conv=>lhs;rw[zcS (s:=s) rfl]
 exact zmO _ _ _
theorem zm5(s:ByteArray)(k j:Nat)(h:k+j<=s.size):(s.extract k s.size).extract 0 j=s.extract k (k+j):=by
 apply ba_ext;rw[zcn,zcn,zcn,List.drop_zero,List.take_drop,List.take_take];congr 2;omega
theorem zoj(s:ByteArray)(k i:Nat):(s.extract k s.size).extract i (s.extract k s.size).size=s.extract (k+i) s.size:=by
 apply ba_ext;rw[Lib.extract_to_end,Lib.extract_to_end,Lib.extract_to_end,List.drop_drop]
theorem split_cut(s m:ByteArray)(hm:1<=m.size):∀(f k:Nat),s.size<=k+f->k<=s.size->Lib.splitB m 0 (Lib.countB (s.extract k s.size) m) (s.extract k s.size)=(cutB s m f k).map (·.2):=by
 intro f
 induction f with
 |zero =>
  intro k h1 h2;have hz:(s.extract k s.size).size=0:=by simp;omega
  have hx:Lib.indexB (s.extract k s.size) m=-1:=by
   show Lib.index (s.extract k s.size).data.toList m.data.toList=-1;have h0:(s.extract k s.size).data.toList=[]:=by rw[Lib.extract_to_end];exact List.drop_eq_nil_of_le (by simp;omega)
   have hne:m.data.toList≠[]:=fun e=>by
    have:m.data.toList.length=m.size:=by simp
    rw[e] at this;simp at this;omega
   rw[h0];cases hm':m.data.toList with
   |nil=>exact absurd hm' hne
   |cons a r=>simp[Lib.index]
  rw[Lib.splitB_miss _ _ _ _ hx];rfl
 |succ f ih =>
  intro k h1 h2;have hge:=Lib.index_ge (s.extract k s.size).data.toList m.data.toList
  by_cases hneg:Lib.index (s.extract k s.size).data.toList m.data.toList<0
  ·have hx:Lib.indexB (s.extract k s.size) m=-1:=by
    show Lib.index (s.extract k s.size).data.toList m.data.toList=-1;omega
   rw[Lib.splitB_miss _ _ _ _ hx,cutB_end hneg];rfl
  ·obtain⟨j,hj⟩:=Int.eq_ofNat_of_zero_le (Int.not_lt.1 hneg);have hx:Lib.indexB (s.extract k s.size) m=(j:Int):=hj;have hr:=index_room (s.extract k s.size).data.toList m.data.toList (by rw[hj];omega);rw[hj] at hr;have hl:(s.extract k s.size).data.toList.length=s.size-k:=by rw[Lib.extract_to_end];simp
   have hml:m.data.toList.length=m.size:=by simp
   rw[hl,hml,Int.toNat_natCast] at hr;rw[Lib.countB_hit _ _ j hm hx,Nat.add_comm 1,Lib.splitB_hit _ _ _ _ j hx,cutB_step hj,List.map_cons,Nat.add_zero,zoj,<-Nat.add_assoc,zm5 s k j (by omega),ih _ (by omega) (by omega)]
end
section
open Go.RowKit Go.Shelf Sv
theorem zlj(s:ByteArray)(k:Nat):(s.extract k s.size).data.toList=s.data.toList.drop k:=by
 rw[zcn,List.take_of_length_le (by rw[Array.length_toList];exact Nat.le_refl _)]
end
section
open Go.RowKit Go.Shelf Sv
theorem zmj{s:ByteArray}{c:UInt8}(h:Lib.index s.data.toList [c]<0):zan s c=(s,⟨#[]⟩):=by
 unfold zan Lib.cut;rw[if_neg (by omega)]
theorem zqR{s:ByteArray}{c:UInt8}{j:Nat}(h:Lib.index s.data.toList [c]=(j:Int)):zan s c=(s.extract 0 j,s.extract (j+1) s.size):=by
 unfold zan Lib.cut;rw[if_pos (by omega),h];simp only[Int.toNat_natCast,List.length_singleton];refine Prod.ext ?_ ?_
 ·exact(zcS (by rw[zcn];simp)).symm
 ·exact(zcS (by rw[zlj])).symm
theorem za9(s:ByteArray)(w:World)(hs:s.size<=100000):zR 130 #[.string s] w (.tuple #[.string (zan s 32).1,.string (zan s 32).2]):=by
 have HI:Hid (zC 204 #[.string s,.int .u8 32] w fun e w'=>e=.returned (.int .i64 (Lib.index s.data.toList [32]))/\w'=w):=by
  have:=Tryz.strings_IndexByte s 32 w;rw[show (32:Int).toNat.toUInt8=32 from rfl,<-Lib.index_one] at this;exact this
 by_cases h:Lib.index s.data.toList [32]<0
 ·rw[zmj h];generalize Lib.index s.data.toList [32]=K at *;go_enter Tryz.func130,Tryz.ntmps130;go_wp2_with fail;refine HI.out.mono ?_;rintro e w1 ⟨rfl,hw1⟩;rw[hw1];clear hw1 HI;go_wp2;refine bodyPost_ret (v:=.tuple #[.string s,.string ⟨#[]⟩]) (by simp[results,Tryz.results130,go_sem]) rfl ?_;exact⟨rfl,Below.refl _ _⟩
 ·obtain⟨j,hj⟩:∃j:Nat,Lib.index s.data.toList [32]=(j:Int):=⟨(Lib.index s.data.toList [32]).toNat,by omega⟩;have hroom:=index_room s.data.toList [32] (by omega);rw[hj] at hroom HI;have hln:s.data.toList.length=s.size:=by simp
  rw[hln] at hroom;simp only[Int.toNat_natCast,List.length_singleton] at hroom;rw[zqR hj];obtain⟨J1,hJ1⟩:∃J1,j+1=J1:=⟨_,rfl⟩;rw[hJ1] at hroom ⊢;have hwr:IntKind.i64.wrap ((j:Int)+1)=(J1:Int):=by rw[IntKind.wrap_i64];omega
  have hj0:¬(j:Int)<0:=by omega
  have i2:(j:Int)<=(s.size:Int):=by omega
  have i3:(J1:Int)<=(s.size:Int):=by omega
  have hsl:=fun W'=>run_slice_string_h (P:=Tryz.prog) W' 9 s Tryz.underlying9 .i64 (j:Int) (by omega) i2;have hsl2:=fun W'=>run_slice_string_l (P:=Tryz.prog) W' 9 s Tryz.underlying9 .i64 (J1:Int) (by omega) i3;simp only[Int.toNat_natCast] at hsl hsl2;clear h hj hln hJ1;go_enter Tryz.func130,Tryz.ntmps130;go_wp2_with fail;refine HI.out.mono ?_;rintro e w1 ⟨rfl,hw1⟩;rw[hw1];clear hw1 HI;go_wp2_with fail;go_big_region;have HB:Hid (zB w w.drew):=zF.drew;go_wp2;refine bodyPost_ret (v:=.tuple #[.string (s.extract 0 j),.string (s.extract J1 s.size)]) (by simp[results,Tryz.results130,go_sem]) rfl ?_;exact⟨rfl,HB.out⟩
end
end Go.Proofs.YtiihalknffbjpaaGreatDoor
