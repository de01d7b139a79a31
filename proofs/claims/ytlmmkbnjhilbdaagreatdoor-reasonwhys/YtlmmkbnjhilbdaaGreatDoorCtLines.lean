/- lines: a function that is ranged over. -/
import Derived.Test.YtlmmkbnjhilbdaaGreatDoorCtSmall
set_option maxHeartbeats 4000000
set_option maxRecDepth 100000
namespace Go.Proofs.YtlmmkbnjhilbdaaGreatDoor
section
open Go.RowKit
def Z6(w:World)(e:Value)(m pl:Int):Prop :=
 (m=0/\pl=-1/\e=.nilIface)\/(m≠0/\pl=-1/\e=.iface 55 (.int .i64 m)) \/
 (m≠0/\∃b,b<w.heap.size/\e=.iface 95 (.pointer (some ⟨b,0,none⟩))/\w.cell? ⟨b,0,none⟩=some (.int .i64 m)/\w.cell? ⟨b,1,none⟩=some (.int .i64 pl))
theorem Z6.below{w w':World}{e:Value}{m pl:Int}(h:Z6 w e m pl)(hb:zB w w'):Z6 w' e m pl:=by
 rcases h with h|h|⟨h0,b,h1,h2,h3,h4⟩
 ·exact Or.inl h
 ·exact Or.inr (Or.inl h)
 ·exact Or.inr (Or.inr ⟨h0,b,Nat.lt_of_lt_of_le h1 hb.size,h2,(hb.cell (p:=⟨b,0,none⟩) h1).trans h3,(hb.cell (p:=⟨b,1,none⟩) h1).trans h4⟩)
end
section
open Go.RowKit Go.Extern.Stop Go.Stop Go.Extern
namespace Errs
theorem zne(v:Value)(w:World):(ReflectliteType.typeOf #[.iface 95 v]).run Tryz.prog w=.ok (.iface 202 (.agg #[.pointer (some ⟨10,95,none⟩)])) w:=by kernel_rfl
theorem zmG(w:World):(ReflectliteType.relation "AssignableTo" ReflectliteType.assignableTo #[.agg #[.pointer (some ⟨10,95,none⟩)],.iface 202 (.agg #[.pointer (some ⟨10,55,none⟩)])]).run Tryz.prog w=.ok (.bool false) w:=by kernel_rfl
theorem zif(h:Value)(w:World):(Go.method 477 95 h "Unwrap").run Tryz.prog w=.ok (258,h) w:=by kernel_rfl
theorem zoi(v:Value)(w:World):(Instr.typeAssert (.iface 95 v) 36 207 true).run Tryz.prog w=.ok (.tuple #[.nilIface,.bool false]) w:=run_typeAssert_lacksB Tryz.underlying207 (by kernel_rfl) (by kernel_rfl) _ 36 w
theorem zjV(v:Value)(w:World):(Instr.typeAssert (.iface 95 v) 36 210 true).run Tryz.prog w=.ok (.tuple #[.iface 95 v,.bool true]) w:=run_typeAssert_hasB Tryz.underlying210 (by kernel_rfl) _ 36 w
theorem as_at(n:Int)(ba:Nat)(t:Addr)(old:Value)(w:World)(hg:w.cell? ⟨0,0,none⟩=some (.iface 202 (.agg #[.pointer (some ⟨10,36,none⟩)])))(ht0:w.cell? t=some old)(hf0:w.frozen? t=false)(hba:w.cell? ⟨ba,0,none⟩=some (.int .i64 n)) :
  zC 30 #[.iface 95 (.pointer (some ⟨ba,0,none⟩)),.iface 89 (.pointer (some t))] w fun ev w'=>ev=.returned (.bool true)/\w'=((((w.alloc (.cells #[.pointer (some t)] 89)).alloc (.cells #[.pointer (some ⟨10,89,none⟩),.pointer (some ⟨w.heap.size,0,none⟩),.int .u64 150] 146)).alloc (.cells #[.pointer (some ⟨10,89,none⟩),.pointer (some ⟨w.heap.size,0,none⟩),.int .u64 150] 146)).alloc (.cells #[.int .i64 n] 55)).setCell t (.int .i64 n):=by
 have h6:=@run_callFunc_extern Tryz.prog 68 _ (fun args=>ReflectliteValue.unpack (args.getD 0 (.tuple #[]))) Tryz.func68 (by kernel_rfl) (by kernel_rfl) (by kernel_rfl) (by kernel_rfl);have h7:=@run_callFunc_extern Tryz.prog 69 _ (ReflectliteValue.methodAny (ReflectliteValue.valueError "reflectlite.Value.Type" 0) (fun t _ _ _=>ReflectliteType.toType t)) Tryz.func69 (by kernel_rfl) (by kernel_rfl) (by kernel_rfl) (by kernel_rfl);have h8:=@run_callFunc_extern Tryz.prog 70 _ (ReflectliteValue.method (ReflectliteValue.valueError "reflectlite.Value.IsNil" 0) ReflectliteValue.isNil) Tryz.func70 (by kernel_rfl) (by kernel_rfl) (by kernel_rfl) (by kernel_rfl);have h27:=@run_callFunc_extern Tryz.prog 251 _ (ReflectliteType.abiMethod fun t=>do pure (.int .u8 (<-Rtype.kind t))) Tryz.func251 (by kernel_rfl) (by kernel_rfl) (by kernel_rfl) (by kernel_rfl);have h37:=@run_callFunc_extern Tryz.prog 266 _ (ReflectliteType.method ReflectliteType.elem) Tryz.func266 (by kernel_rfl) (by kernel_rfl) (by kernel_rfl) (by kernel_rfl);have h38:=@run_callFunc_extern Tryz.prog 267 _ (ReflectliteType.relation "Implements" ReflectliteType.implements_) Tryz.func267 (by kernel_rfl) (by kernel_rfl) (by kernel_rfl) (by kernel_rfl);have h10:=@run_callFunc_extern Tryz.prog 108 _ ReflectliteType.typeOf Tryz.func108 (by kernel_rfl) (by kernel_rfl) (by kernel_rfl) (by kernel_rfl);have h35:=@run_callFunc_extern Tryz.prog 264 _ (ReflectliteType.relation "AssignableTo" ReflectliteType.assignableTo) Tryz.func264 (by kernel_rfl) (by kernel_rfl) (by kernel_rfl) (by kernel_rfl);have h11:=@run_callFunc_extern Tryz.prog 109 _ (ReflectliteValue.method (ReflectliteValue.valueError "reflectlite.Value.Elem" 0) ReflectliteValue.elem) Tryz.func109 (by kernel_rfl) (by kernel_rfl) (by kernel_rfl) (by kernel_rfl);have h12:=@run_callFunc_extern Tryz.prog 110 _ ReflectliteValue.set Tryz.func110 (by kernel_rfl) (by kernel_rfl) (by kernel_rfl) (by kernel_rfl);have tO:=zeJ;have mA:=zdB;have a25:=zfd;have v25:=zew;have f6:=zge;have f7:=zd6;have mK:=zex;have mE:=zgf;have mI:=zey;have k27:=zct;have k25:=zdc;have e27:=zdf;have i25:=zb5;have n8:=zdb ⟨w.heap.size,0,none⟩ t ((w.alloc (.cells #[.pointer (some t)] 89)).alloc (.cells #[.pointer (some ⟨10,89,none⟩),.pointer (some ⟨w.heap.size,0,none⟩),.int .u64 150] 146)) (by simp);have hlt:0<w.heap.size:=by
  rcases Nat.lt_or_ge 0 w.heap.size with h|h
  ·exact h
  ·simp[World.cell?,Array.getElem?_eq_none h] at hg
 have hg2:((w.alloc (.cells #[.pointer (some t)] 89)).alloc (.cells #[.pointer (some ⟨10,89,none⟩),.pointer (some ⟨w.heap.size,0,none⟩),.int .u64 150] 146)).cell? ⟨0,0,none⟩=some (.iface 202 (.agg #[.pointer (some ⟨10,36,none⟩)])):=by
  rw[World.cell?_alloc_lt _ _ ⟨0,0,none⟩ (by simp only[World.size_alloc];omega),World.cell?_alloc_lt _ _ ⟨0,0,none⟩ hlt];exact hg
 have htl:t.block<w.heap.size:=by
  rcases Nat.lt_or_ge t.block w.heap.size with h|h
  ·exact h
  ·simp[World.cell?,Array.getElem?_eq_none h] at ht0
 have el:=zcZ ⟨w.heap.size,0,none⟩ t (((w.alloc (.cells #[.pointer (some t)] 89)).alloc (.cells #[.pointer (some ⟨10,89,none⟩),.pointer (some ⟨w.heap.size,0,none⟩),.int .u64 150] 146)).alloc (.cells #[.pointer (some ⟨10,89,none⟩),.pointer (some ⟨w.heap.size,0,none⟩),.int .u64 150] 146)) (by rw[World.cell?_alloc_lt _ _ ⟨w.heap.size,0,none⟩ (by simp;omega)];simp);have st:=zcm t ⟨w.heap.size+1+1+1,0,none⟩ n old ((((w.alloc (.cells #[.pointer (some t)] 89)).alloc (.cells #[.pointer (some ⟨10,89,none⟩),.pointer (some ⟨w.heap.size,0,none⟩),.int .u64 150] 146)).alloc (.cells #[.pointer (some ⟨10,89,none⟩),.pointer (some ⟨w.heap.size,0,none⟩),.int .u64 150] 146)).alloc (.cells #[.int .i64 n] 55))
  (by rw[World.cell?_alloc_at _ _ _ _ (by simp)];rfl)
  (by rw[World.cell?_alloc_lt _ _ t (by simp;omega),World.cell?_alloc_lt _ _ t (by simp;omega),World.cell?_alloc_lt _ _ t (by simp;omega),World.cell?_alloc_lt _ _ t htl];exact ht0)
  (by rw[World.frozen?_alloc_old _ _ t (by simp;omega),World.frozen?_alloc_old _ _ t (by simp;omega),World.frozen?_alloc_old _ _ t (by simp;omega),World.frozen?_alloc_old _ _ t (Nat.ne_of_lt htl)];exact hf0)
 have hbl:ba<w.heap.size:=by
  rcases Nat.lt_or_ge ba w.heap.size with h|h
  ·exact h
  ·simp[World.cell?,Array.getElem?_eq_none h] at hba
 have hb3:(((w.alloc (.cells #[.pointer (some t)] 89)).alloc (.cells #[.pointer (some ⟨10,89,none⟩),.pointer (some ⟨w.heap.size,0,none⟩),.int .u64 150] 146)).alloc (.cells #[.pointer (some ⟨10,89,none⟩),.pointer (some ⟨w.heap.size,0,none⟩),.int .u64 150] 146)).cell? ⟨ba,0,none⟩=some (.int .i64 n):=by
  rw[World.cell?_alloc_lt _ _ ⟨ba,0,none⟩ (by simp only[World.size_alloc];omega),World.cell?_alloc_lt _ _ ⟨ba,0,none⟩ (by simp only[World.size_alloc];omega),World.cell?_alloc_lt _ _ ⟨ba,0,none⟩ hbl];exact hba
 have tA:=zne;have aA:=zmG;have mU:=zif;have n1:=zoi;have y1:=zjV;go_enter Tryz.func30,Tryz.ntmps30;go_wp2;refine wp_loop_rounds 2 ?_;rw[rounds_succ];go_wp2;rw[rounds_succ];go_wp2;go_ret;exact⟨rfl,rfl⟩
end Errs
theorem zhw(n:Int)(ba:Nat)(w:World)(hg:Zg w)(hba:w.cell? ⟨ba,0,none⟩=some (.int .i64 n)) :
  zR 13 #[.iface 95 (.pointer (some ⟨ba,0,none⟩))] w (.int .i64 n):=by
 have hbl:ba<w.heap.size:=by
  rcases Nat.lt_or_ge ba w.heap.size with h|h
  ·exact h
  ·simp[World.cell?,Array.getElem?_eq_none h] at hba
 have H:=Errs.as_at n ba ⟨w.heap.size,0,none⟩ (.int .i64 0) (w.alloc (.cells #[.int .i64 0] 55)) (hg.below (zF.alloc zN _)) (Qk _ _ _) (Xa _ _ _) ((World.cell?_alloc_lt _ _ ⟨ba,0,none⟩ hbl).trans hba);clear hba;go_enter Tryz.func13,Tryz.ntmps13;go_wp2_with fail;refine H.mono ?_;rintro e w' ⟨rfl,hw⟩;have hc:w'.cell? ⟨w.heap.size,0,none⟩=some (.int .i64 n):=by
  rw[hw];refine World.cell?_setCell_same' _ _ _ ?_;rw[World.cell?_alloc_lt _ _ ⟨w.heap.size,0,none⟩ (by simp;omega),World.cell?_alloc_lt _ _ ⟨w.heap.size,0,none⟩ (by simp;omega),World.cell?_alloc_lt _ _ ⟨w.heap.size,0,none⟩ (by simp;omega),World.cell?_alloc_lt _ _ ⟨w.heap.size,0,none⟩ (by simp),Qk];rfl
 have hb:zB w w':=by
  rw[hw];exact(((((zF.alloc zN _).alloc (by simp) _).alloc (by simp;omega) _).alloc (by simp;omega) _).alloc (by simp;omega) _).setCell zN _
 clear H hw;go_wp2;go_ret;exact⟨rfl,hb⟩
theorem zmQ(n:Int)(w:World):(Instr.typeAssert (.iface 55 (.int .i64 n)) 36 95 true).run Tryz.prog w=.ok (.tuple #[.pointer none,.bool false]) w:=by kernel_rfl
theorem zmp(b:Nat)(w:World):(Instr.typeAssert (.iface 95 (.pointer (some ⟨b,0,none⟩))) 36 95 true).run Tryz.prog w=.ok (.tuple #[.pointer (some ⟨b,0,none⟩),.bool true]) w:=by kernel_rfl
end
section
open Go.RowKit Go.Shelf Sv
structure Lw(w:World):Prop where
 lb:Lb w
 wd:ZO w
theorem Lw.below{w w':World}(h:Lw w)(hb:zB w w'):Lw w':=⟨h.lb.below hb,h.wd.below hb (by have:=h.lb.big;omega)⟩
theorem ZM(s:ByteArray)(c:UInt8)(W:World)(hs:s.size<=100000)(hw:Lb W) :
  zC 73 #[.string s,.string ⟨#[c]⟩] W fun e w'=>∃b,e=.returned (.tuple #[.string (zh s c).1,.string (zh s c).2,.bool b])/\zB W w':=by
 obtain⟨m,hm⟩:=hw.ml;refine(Tryz.strings_Cut s ⟨#[c]⟩ m W (by omega) hm).mono fun e w' ⟨he,n,hn⟩=>⟨_,he,?_⟩;subst hn;exact⟨rfl,rfl,rfl,Nat.le_refl _,fun _ _=>rfl⟩
theorem zn4(s:ByteArray)(w:World)(hs:1000<s.size) :
  zR 22 #[.string s] w (.tuple #[.agg #[.slice none 0 0],.iface 55 (.int .i64 4)]):=by
 have hl:(1000:Int)<(s.size:Int):=by omega
 generalize hn:(s.size:Int)=n at *;clear hs;go_enter Tryz.func22,Tryz.ntmps22;go_wp2;have k0:=((Blk.new w 67 #[.slice none 0 0]).alloc (.cells #[.iface 55 (.int .i64 4)] 36));have k1:=(Blk.new (w.alloc (.cells #[.slice none 0 0] 67)) 36 #[.iface 55 (.int .i64 4)]);rw[World.size_alloc] at k1;have hB:zB w ((w.alloc (.cells #[.slice none 0 0] 67)).alloc (.cells #[.iface 55 (.int .i64 4)] 36)):=((Below.refl _ w).alloc zN _).alloc (by simp only[World.size_alloc];omega) _;generalize (w.alloc (.cells #[.slice none 0 0] 67)).alloc (.cells #[.iface 55 (.int .i64 4)] 36)=WF at *;have r0:=k0.cell 0;have r3:=k1.cell 0;refine bodyPost_ret (v:=.tuple #[.agg #[.slice none 0 0],.iface 55 (.int .i64 4)]) (by simp[results,Tryz.f22,go_sem,r0,r3]) rfl ?_;exact⟨rfl,hB⟩
def yc(w:World)(er:Value)(k:Int):Option Nat->Prop
 |none=>er=.iface 55 (.int .i64 k)
 |some q=>∃N,er=.iface 95 (.pointer (some ⟨N,0,none⟩))/\Blk w N 97 #[.int .i64 k,.int .i64 q]
theorem yc.below{w w':World}{er:Value}{k:Int}{p:Option Nat}(h:yc w er k p)(hb:zB w w'):yc w' er k p:=by
 cases p with
 |none=>exact h
 |some q =>obtain⟨N,h1,h2⟩:=h;exact⟨N,h1,h2.below hb h2.lt⟩
theorem yc.form{w:World}{er:Value}{k:Int}{p:Option Nat}(h:yc w er k p):∃t v,er=.iface t v:=by
 cases p with
 |none=>exact⟨_,_,h⟩
 |some q=>obtain⟨N,h1,_⟩:=h;exact⟨_,_,h1⟩
def zor(r:Except (Int × Option Nat) (List zg))(w':World)(v er:Value):Prop :=
 match r with
 |.ok l=>er=.nilIface/\zi w' v l/\Rg l
 |.error (k,p)=>v=.slice none 0 0/\yc w' er k p
theorem zcX(s:ByteArray)(w:World)(hs:s.size<=100000)(hw:Lb w) :
  zC 22 #[.string s] w fun e w'=>∃a n c er,e=.returned (.tuple #[.agg #[.slice a n c],er])/\zor (Xz s) w' (.slice a n c) er/\(∀g,(Value.slice a n c).ownBlock=some g->w.heap.size<=g)/\zB w w':=by
 unfold Xz
 by_cases h:1000<s.size
 ·rw[if_pos h];exact(zn4 s w h).mono fun e w' ⟨he,hb⟩=>⟨none,0,0,_,he,⟨rfl,rfl⟩,(fun g hg=>by simp[Value.ownBlock] at hg),hb⟩
 ·rw[if_neg h];refine(zfo s w (by omega) hw).mono fun e w' h=>?_;unfold Xb at h;cases hx:ZR s with
  |ok l =>rw[hx] at h;obtain⟨v',he,h1,h2,h3⟩:=h;obtain⟨a',c',rfl⟩:=h1.form;exact⟨a',_,c',_,he,⟨rfl,h1,zck hx⟩,h2,h3⟩
  |error e2 =>obtain⟨k,q⟩:=e2;rw[hx] at h;obtain⟨N,he,h1,h2,h3⟩:=h;exact⟨none,0,0,_,he,⟨rfl,N,rfl,h1⟩,(fun g hg=>by simp[Value.ownBlock] at hg),h3⟩
abbrev z7:Array Value:=#[.int .i64 0,.string ⟨#[]⟩,.int .i64 0,.int .i64 0,.int .i64 0,.string ⟨#[]⟩,.slice none 0 0]
def Xs(w:World)(r:Except (Int × Option Nat) Ln)(e:Ending)(w':World):Prop :=
 match r with
 |.ok x=>∃v,e=.returned (.tuple #[.agg #[.int .i64 x.kind,.string x.name,.int .i64 x.a,.int .i64 x.b,.int .i64 x.c,.string x.other,v],.nilIface])/\zi w' v x.rng/\Rg x.rng/\(∀g,v.ownBlock=some g->w.heap.size<=g)/\zB w w'
 |.error (k,p)=>∃er,e=.returned (.tuple #[.agg z7,er])/\yc w' er k p/\zB w w'
structure LS(w W:World)(b:Nat)(cs:Array Value):Prop where
 z:Blk W w.heap.size 69 z7
 x:Blk W b 69 cs
 ne:w.heap.size<b
 B:zB w W
theorem LS.step{w W W':World}{b:Nat}{cs:Array Value}(h:LS w W b cs)(hb:zB W W'):LS w W' b cs:=⟨h.z.below hb h.z.lt,h.x.below hb h.x.lt,h.ne,zT h.B hb⟩
theorem LS.set{w W:World}{b:Nat}{cs:Array Value}(h:LS w W b cs)(i:Nat)(v:Value):LS w (W.setCell ⟨b,i,none⟩ v) b (cs.setIfInBounds i v) :=
 ⟨h.z.other (by have:=h.ne;omega),h.x.set,h.ne,h.B.setCell (p:=⟨b,i,none⟩) (Nat.le_of_lt h.ne) _⟩
theorem Blk.ne_type{W:World}{b b':Nat}{t t':TypeId}{cs cs':Array Value}(h:Blk W b t cs)(h':Blk W b' t' cs')(hne:t≠t'):b≠b':=by
 rintro rfl;have:=(show W.heap[b]?=_ from h).symm.trans h';simp only[Option.some.injEq,Obj.cells.injEq] at this;exact hne this.2.1
theorem yc.setx{w W:World}{b:Nat}{cs:Array Value}{er:Value}{k:Int}{p:Option Nat}{i:Nat}{v:Value}(h:yc W er k p)(hL:LS w W b cs):yc (W.setCell ⟨b,i,none⟩ v) er k p:=by
 cases p with
 |none=>exact h
 |some q =>obtain⟨N,h1,h2⟩:=h;exact⟨N,h1,h2.other (h2.ne_type hL.x (by decide))⟩
theorem yc.one{W:World}{b:Nat}{cs:Array Value}{er:Value}{k:Int}{p:Option Nat}{i:Nat}{v:Value}(h:yc W er k p)(hL:Blk W b 69 cs):yc (W.setCell ⟨b,i,none⟩ v) er k p:=by
 cases p with
 |none=>exact h
 |some q =>obtain⟨N,h1,h2⟩:=h;exact⟨N,h1,h2.other (h2.ne_type hL (by decide))⟩
theorem yc.setz{w W:World}{b:Nat}{cs:Array Value}{er:Value}{k:Int}{p:Option Nat}{v0 v1 v2 v3 v4 v5 v6:Value}(h:yc W er k p)(hL:LS w W b cs):yc (((((((W.setCell ⟨w.heap.size,0,none⟩ v0).setCell ⟨w.heap.size,1,none⟩ v1).setCell ⟨w.heap.size,2,none⟩ v2).setCell ⟨w.heap.size,3,none⟩ v3).setCell ⟨w.heap.size,4,none⟩ v4).setCell ⟨w.heap.size,5,none⟩ v5).setCell ⟨w.heap.size,6,none⟩ v6) er k p:=by
 have z:=hL.z;exact((((((h.one z).one z.set).one z.set.set).one z.set.set.set).one z.set.set.set.set).one z.set.set.set.set.set).one z.set.set.set.set.set.set
theorem zi.one{W:World}{b:Nat}{v x:Value}{l:List zg}{i:Nat}(h:zi W v l)(hn:v.ownBlock≠some b):zi (W.setCell ⟨b,i,none⟩ x) v l :=
 ⟨h.form,fun j hj=>by
  obtain⟨g,cap,e,hg,c0,c1⟩:=h.cells j hj;have hne:g≠b:=fun e'=>hn (by rw[e,e'];rfl);exact ⟨g,cap,e,by simp [World.setCell];exact hg,(yF hne).trans c0,(yF hne).trans c1⟩⟩
theorem zi.all7{W:World}{b:Nat}{v v0 v1 v2 v3 v4 v5 v6:Value}{l:List zg}(h:zi W v l)(hn:v.ownBlock≠some b):zi (((((((W.setCell ⟨b,0,none⟩ v0).setCell ⟨b,1,none⟩ v1).setCell ⟨b,2,none⟩ v2).setCell ⟨b,3,none⟩ v3).setCell ⟨b,4,none⟩ v4).setCell ⟨b,5,none⟩ v5).setCell ⟨b,6,none⟩ v6) v l :=
 ((((((h.one hn).one hn).one hn).one hn).one hn).one hn).one hn
end
section
open Go.RowKit Go.Shelf Sv
attribute [local go_sem] Oper.semAt_some
theorem zgM(s:ByteArray)(w:World) :
  CallsIn Fence.wide 3 Tryz.prog 31 #[.string s] w fun e w'=>e=.returned (.func (.func 72) #[] #[.pointer (some ⟨w.heap.size,0,none⟩)])/\w'=w.alloc (.cells #[.string s] 9):=by
 refine callsIn_of_wp Tryz.func31 rfl trivial ?_ rfl;simp only[Tryz.ntmps31,List.size_toArray,List.length_cons,List.length_nil,Nat.reduceAdd,Nat.reduceSub,Array.replicate_succ,Array.replicate_zero,List.push_toArray,List.append_toArray,List.nil_append,List.cons_append]
 gi_wp2
 go_ret;exact⟨rfl,rfl⟩
theorem zlW{s:ByteArray}{k:Nat}(h:s.size<=k):∀f,yf s f k=[]
 |0=>rfl
 |f+1=>by rw[yf,if_pos h]
theorem zjc{s:ByteArray}{k:Nat}(h:k<s.size)(f:Nat):yf s (f+1) k=(if (zh (s.extract k s.size) 10).1.size=0 then [] else [(k,(zh (s.extract k s.size) 10).1)])++yf s f (k+(zh (s.extract k s.size) 10).1.size+1):=by
 rw[yf,if_neg (by omega)]
theorem zfj(s:ByteArray):∀(f k:Nat),(yf s f k).length<=f
 |0,_=>by simp[yf]
 |f+1,k=>by
  rw[yf];split
  ·simp
  ·have:=zfj s f (k+(zh (s.extract k s.size) 10).1.size+1);rw[List.length_append];split<;>simp<;>omega
def Kp1(bt:Nat)(W W':World):Prop:=W'.cell? ⟨bt,0,none⟩=W.cell? ⟨bt,0,none⟩/\W'.cell? ⟨2,0,none⟩=W.cell? ⟨2,0,none⟩
theorem zgz(s:ByteArray)(m:Int)(W:World)(hs:s.size<=100000)(hm:W.cell? ⟨2,0,none⟩=some (.int .i64 m)) :
  zC 73 #[.string s,.string ⟨#[10]⟩] W fun e w'=>∃b,e=.returned (.tuple #[.string (zh s 10).1,.string (zh s 10).2,.bool b])/\∃n,w'=W.drewN n :=
 (Tryz.strings_Cut s ⟨#[10]⟩ m W (by omega) hm).mono fun e w' ⟨he,n,hn⟩=>⟨_,he,n,hn⟩
theorem znV(l bt:Nat)(s:ByteArray)(hs:s.size<=20000)(J Jx:List Pc->World->Prop)
  (hJd:∀pre W n,J pre W->J pre (W.drewN n))
  (hY:∀ pre x W,J pre W->pre.length<(yf s s.size 0).length->YieldAt Fence.wide (3 - 1) Tryz.prog l #[.int .i64 x.1.1,.string x.1.2] W fun e W' =>
   (e=.returned (.bool true)/\J (pre++[x]) W'/\Kp1 bt W W')\/(e=.returned (.bool false)/\Jx (pre++[x]) W'))
  (W:World) (h0:W.cell? ⟨bt,0,none⟩=some (.string s)) (n:Int) (hn0:W.cell? ⟨2,0,none⟩=some (.int .i64 n)) (hJ:J [] W) :
  CallsIn Fence.wide 3 Tryz.prog 72 #[.func (.yield l) #[] #[],.pointer (some ⟨bt,0,none⟩)] W fun e W'=>(∃v,e=.returned v)/\((∃ys,qf ys=yf s s.size 0/\J ys W')\/(∃pre,qf pre <+: yf s s.size 0/\Jx pre W')):=by
 have HY:=zH hY;have HJD:=zH hJd;clear hY hJd;refine callsIn_of_wp Tryz.func72 rfl trivial ?_ rfl;simp only[Tryz.ntmps72,List.size_toArray,List.length_cons,List.length_nil,Nat.reduceAdd,Nat.reduceSub,Array.replicate_succ,Array.replicate_zero,List.push_toArray,List.append_toArray,List.nil_append,List.cons_append]
 gi_wp2
 gi_loopw [3] (fun p wr=>∃(pre:List Pc) (k f:Nat),p=.int .i64 k/\k<=s.size+1/\s.size<=k+f/\qf pre++yf s f k=yf s s.size 0/\wr.cell? ⟨bt,0,none⟩=some (.string s)/\wr.cell? ⟨2,0,none⟩=some (.int .i64 n)/\J pre wr)
  (fun p _=>s.size+1-(intOf p).toNat)
 case atStart=>exact⟨[],0,s.size,rfl,Nat.zero_le _,by omega,rfl,h0,hn0,hJ⟩
 case round =>
  obtain⟨pre,k,f,rfl,hk,hf,hcut,c0,hn,hJs⟩:=hrel;have HJ:=zH hJs;have HC:=zH hcut;clear hJs hcut;have HN:=zH hn;clear hn
  by_cases hlt:k<s.size
  ·obtain⟨f',rfl⟩:∃f',f=f'+1:=⟨f-1,by omega⟩;have hx:(s.extract k s.size).size=s.size-k:=by rw[ByteArray.size_extract];omega
   have hsz:=(ZD (s.extract k s.size) 10).1;have hcut:=HC.out;rw[zjc hlt] at hcut;have HCall:=zH (zgz (s.extract k s.size) n wr (by omega) HN.out);have i0:(0:Int)<=(k:Int):=by omega
   have i1:(k:Int)<=(s.size:Int):=by omega
   have hsl:=fun W'=>run_slice_string (P:=Tryz.prog) W' 9 s .i64 .i64 (k:Int) (s.size:Int) Tryz.underlying9 i0 i1 (Int.le_refl _);simp only[Int.toNat_natCast] at hsl;generalize (zh (s.extract k s.size) 10).1=ln at *;generalize (zh (s.extract k s.size) 10).2=rs at *;have hl2:ln.size<=100000:=by omega
   have hk2:k<=100000:=by omega
   have HX:=zH hcut;clear hcut HC
   gi_wp2_with fail
   refine⟨trivial,?_⟩;refine(callsIn_wide.2 HCall.out).mono ?_;rintro e w1 ⟨b,rfl,nq,rfl⟩;have e0:(wr.drewN nq).cell? ⟨bt,0,none⟩=some (.string s):=c0;have HN1:Hid ((wr.drewN nq).cell? ⟨2,0,none⟩=some (.int .i64 n)):=HN.out;have HJ1:Hid (J pre (wr.drewN nq)):=HJD.out _ _ nq HJ.out;clear HCall hsl i0 i1 c0 HN HJ
   by_cases hz:ln.size=0
   ·have HX2:Hid (qf pre++yf s f' (k+0+1)=yf s s.size 0):=by have h:=HX.out;rw[if_pos hz,hz] at h;exact h
    obtain rfl:=XI hz;clear HX hz hl2 hsz
    gi_wp2
    refine⟨(fun f h=>by cases h),?_⟩
    gi_wp2
    go_roundw
    case rel=>exact⟨pre,k+1,f',by go_num,by omega,by omega,HX2.out,e0,HN1.out,HJ1.out⟩
    case measure=>simp[intOf];omega
   ·have he1:ln.toList.isEmpty=false:=YO (by omega);have he2:(ln.toList==[])=false:=by rw[beq_eq_false_iff_ne];intro h;rw[h] at he1;cases he1
    have HX2:Hid (qf (pre++[⟨(k,ln),hk2,hl2⟩])++yf s f' (k+ln.size+1)=yf s s.size 0):=by
     have h:=HX.out;rw[if_neg hz] at h;show _=_;rw[qf,List.map_append,List.append_assoc];exact h
    have hlen:pre.length<(yf s s.size 0).length:=by
     have h:=congrArg List.length HX2.out;rw[List.length_append,qf,List.length_map,List.length_append,List.length_cons] at h;omega
    clear HX;obtain⟨fn,tmps,assign,body,hy,hR⟩:=HY.out pre ⟨(k,ln),hk2,hl2⟩ (wr.drewN nq) HJ1.out hlen;dsimp only at hy;have HLEN:=zH hlen;clear hlen
    gi_wp2
    refine hR.mono ?_;rintro e W3 (⟨rfl,hJ3,hk3⟩|⟨rfl,hJx3⟩)
    ·have d0:W3.cell? ⟨bt,0,none⟩=some (.string s):=hk3.1.trans e0;have d2:Hid (W3.cell? ⟨2,0,none⟩=some (.int .i64 n)):=hk3.2.trans HN1.out;have HJ3:=zH hJ3;clear hJ3 hk3
     gi_wp2
     go_roundw
     case rel=>exact⟨pre++[⟨(k,ln),hk2,hl2⟩],k+ln.size+1,f',by go_num,by omega,by omega,HX2.out,d0,d2.out,HJ3.out⟩
     case measure=>simp[intOf];omega
    ·gi_wp2
     refine bodyPost_ret (results_none rfl _ _ _) rfl ?_;exact⟨⟨_,rfl⟩,.inr ⟨_,⟨_,HX2.out⟩,hJx3⟩⟩
  ·have hcut:=HC.out;rw[zlW (by omega),List.append_nil] at hcut;have HX:=zH hcut;clear hcut HC
   gi_wp2
   refine bodyPost_end (results_none rfl _ _ _) rfl ?_;exact⟨⟨_,rfl⟩,.inl ⟨pre,HX.out,HJ.out⟩⟩
theorem ziW(W:World)(n:Nat):W.grownBy (W.drewN n) none:=⟨rfl,rfl,rfl,Nat.le_refl _,fun _ _ _=>rfl⟩
theorem zof(bt:Nat)(s:ByteArray)(hs:s.size<=20000)(w:World)(hbt:bt<w.heap.size)(h1:2<w.heap.size)(c0:w.cell? ⟨bt,0,none⟩=some (.string s))(n:Int)(c2:w.cell? ⟨2,0,none⟩=some (.int .i64 n)) :
  SeqStopsK Fence.wide 3 Tryz.prog 72 #[.pointer (some ⟨bt,0,none⟩)] zfc (Kp1 bt) (fun ys=>qf ys=yf s s.size 0) (fun pre=>qf pre <+: yf s s.size 0) (yf s s.size 0).length w:=fun l J Jx W hW hJ _ hY h0 =>
 znV l bt s hs J Jx (fun pre W n h=>hJ pre W _ none h (ziW W n) (fun r e=>by cases e)) hY W ((hW.cell (p:=⟨bt,0,none⟩) hbt).trans c0) n ((hW.cell (p:=⟨2,0,none⟩) h1).trans c2) h0
theorem JT{bt:Nat}{A B C:World}(h:Kp1 bt A B)(k:Kp1 bt B C):Kp1 bt A C:=⟨k.1.trans h.1,k.2.trans h.2⟩
theorem znO{bt:Nat}{w:World}(hbt:bt<w.heap.size)(h1:2<w.heap.size)(W:World)(l:Nat)(o o':Obj)(hl:w.heap.size<=l)(_:W.heap[l]?=some o)(_:o.isCells=false)(_:o.isWalk=false):Kp1 bt W (W.putObj l o') :=
 ⟨XN (by omega),XN (by omega)⟩
theorem zbs{bt B:Nat}{W W':World}(h:Below B W W')(h1:bt<B)(h3:2<B):Kp1 bt W W':=⟨h.cell (p:=⟨bt,0,none⟩) h1,h.cell (p:=⟨2,0,none⟩) h3⟩
theorem zdZ{bt b i:Nat}{W W':World}{v:Value}(h:Kp1 bt W W')(h1:bt≠b)(h3:2≠b):Kp1 bt W (W'.setCell ⟨b,i,none⟩ v):=⟨(yF h1).trans h.1,(yF h3).trans h.2⟩
end
end Go.Proofs.YtlmmkbnjhilbdaaGreatDoor
