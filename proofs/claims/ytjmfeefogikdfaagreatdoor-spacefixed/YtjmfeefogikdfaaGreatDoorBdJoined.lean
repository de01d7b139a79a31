/- What Get tells of a node. -/
import Derived.Test.YtjmfeefogikdfaaGreatDoorBdMk
namespace Go.Proofs.YtjmfeefogikdfaaGreatDoor
set_option maxHeartbeats 4000000
set_option maxRecDepth 100000
namespace Bd
open Go.RowKit Go.Maps
theorem zfD{P:Program}(w:World)(ts:Array TypeId)(t:TypeId)(k:IntKind)(x y z:Int) :
  (Builtin.min_ ts t #[.int k x,.int k y,.int k z]).run P w=.ok (.int k (min (min x y) z)) w:=by
 have e:∀x y:Int,(if y<x then y else x)=min x y:=fun x y=>by
  rw[Int.min_def];split<;>split<;>omega
 simp[Builtin.min_,Builtin.min2,e]
structure Tri(w:World)(bk:Nat)(a b c:Int):Prop where
 lt:bk<w.heap.size
 c0:w.cell? ⟨bk,0,none⟩=some (.int .i64 a)
 c1:w.cell? ⟨bk,1,none⟩=some (.int .i64 b)
 c2:w.cell? ⟨bk,2,none⟩=some (.int .i64 c)
 fz:∀i,w.frozen? ⟨bk,i,none⟩=false
section
variable {w w':World} {bk bk' i:Nat} {a b c:Int}
theorem Tri.kept{S:Nat->Prop}(h:Tri w bk a b c)(hk:zb S w w')(hn:¬S bk):Tri w' bk a b c :=
 ⟨Nat.lt_of_lt_of_le h.lt hk.size,(hk.cell (a:=⟨bk,0,none⟩) h.lt hn).trans h.c0,(hk.cell (a:=⟨bk,1,none⟩) h.lt hn).trans h.c1,(hk.cell (a:=⟨bk,2,none⟩) h.lt hn).trans h.c2,fun i=>(hk.frozen (a:=⟨bk,i,none⟩) h.lt hn).trans (h.fz i)⟩
theorem Tri.new(h:Tri w bk a b c)(hb:zB w w'):Tri w' bk a b c:=h.kept (zb.of_below hb (fun _=>False)) (fun h=>h)
theorem Tri.other(h:Tri w bk a b c)(u:Value)(hne:bk≠bk'):Tri (w.setCell ⟨bk',i,none⟩ u) bk a b c:=h.kept (zb.setCell (S:=fun j=>j=bk') w ⟨bk',i,none⟩ u rfl) hne
theorem K4(w:World)(x:Addr)(u:Value):(w.setCell x u).heap.size=w.heap.size:=by simp[World.setCell]
theorem Tri.set0(h:Tri w bk a b c)(x:Int):Tri (w.setCell ⟨bk,0,none⟩ (.int .i64 x)) bk x b c :=
 ⟨by rw[K4];exact h.lt,World.cell?_setCell_same _ _ _ h.c0,by rw[World.cell?_setCell_other _ _ _ _ (by simp)];exact h.c1,by rw[World.cell?_setCell_other _ _ _ _ (by simp)];exact h.c2,fun i=>by rw[World.frozen?_setCell];exact h.fz i⟩
theorem Tri.set1(h:Tri w bk a b c)(x:Int):Tri (w.setCell ⟨bk,1,none⟩ (.int .i64 x)) bk a x c :=
 ⟨by rw[K4];exact h.lt,by rw[World.cell?_setCell_other _ _ _ _ (by simp)];exact h.c0,World.cell?_setCell_same _ _ _ h.c1,by rw[World.cell?_setCell_other _ _ _ _ (by simp)];exact h.c2,fun i=>by rw[World.frozen?_setCell];exact h.fz i⟩
theorem Tri.set2(h:Tri w bk a b c)(x:Int):Tri (w.setCell ⟨bk,2,none⟩ (.int .i64 x)) bk a b x :=
 ⟨by rw[K4];exact h.lt,by rw[World.cell?_setCell_other _ _ _ _ (by simp)];exact h.c0,by rw[World.cell?_setCell_other _ _ _ _ (by simp)];exact h.c1,World.cell?_setCell_same _ _ _ h.c2,fun i=>by rw[World.frozen?_setCell];exact h.fz i⟩
theorem Ys(w:World)(a b c:Int)(t:TypeId):Tri (w.alloc (.cells #[.int .i64 a,.int .i64 b,.int .i64 c] t)) w.heap.size a b c:=by
 obtain⟨x0,x1,x2,x3⟩:=xH w (.int .i64 a) (.int .i64 b) (.int .i64 c) t;exact⟨by simp,x0,x1,x2,x3⟩
end
theorem zjo(a b c:Value)(w:World):(Instr.index 235 (.agg #[a,b,c]) (.int .i64 0)).run Tryz.prog w=.ok a w:=by kernel_rfl
theorem zk6(a b c:Value)(w:World):(Instr.index 235 (.agg #[a,b,c]) (.int .i64 1)).run Tryz.prog w=.ok b w:=by kernel_rfl
theorem zfV(a b c:Value)(w:World):(Instr.index 235 (.agg #[a,b,c]) (.int .i64 2)).run Tryz.prog w=.ok c w:=by kernel_rfl
def zdb(B s b wk dm:Nat)(F:FuncId)(op:Bool)(vars:Nat)(room:Int)(d:Nat):Prop :=
 ∀(ns:List Nd) (m:List (Nd × Int)) (k:Nd) (O:Nat->Prop) (w:World),WS B w s b wk dm O F op vars room ns m->yJ ns k->24<=ze ns k+d->((cnt ns+2^rk vars ns k:Nat):Int)<=room+1->ns.length+2^rk vars ns k<=90000->m.length+2^rk vars ns k<=90000 ->
  zC 172 #[.pointer (some ⟨wk,0,none⟩),k.val] w (Yp B s b wk dm O F op vars room (zo d op ns m k) w)
theorem zfS{d:Nat}{op:Bool}{ns:List Nd}{m:List (Nd × Int)}{k:Nd}(hk:qB op k=none)(hn:look m k=none) :
  zo (d + 1) op ns m k=((yd (zo d op (zo d op ns m (loK ns k (ze ns k))).1 (zo d op ns m (loK ns k (ze ns k))).2.1 (hiK ns k (ze ns k))).1 (ze ns k) (zo d op ns m (loK ns k (ze ns k))).2.2 (zo d op (zo d op ns m (loK ns k (ze ns k))).1 (zo d op ns m (loK ns k (ze ns k))).2.1 (hiK ns k (ze ns k))).2.2).1,
   Zo (zo d op (zo d op ns m (loK ns k (ze ns k))).1 (zo d op ns m (loK ns k (ze ns k))).2.1 (hiK ns k (ze ns k))).2.1 k (yd (zo d op (zo d op ns m (loK ns k (ze ns k))).1 (zo d op ns m (loK ns k (ze ns k))).2.1 (hiK ns k (ze ns k))).1 (ze ns k) (zo d op ns m (loK ns k (ze ns k))).2.2 (zo d op (zo d op ns m (loK ns k (ze ns k))).1 (zo d op ns m (loK ns k (ze ns k))).2.1 (hiK ns k (ze ns k))).2.2).2,
   (yd (zo d op (zo d op ns m (loK ns k (ze ns k))).1 (zo d op ns m (loK ns k (ze ns k))).2.1 (hiK ns k (ze ns k))).1 (ze ns k) (zo d op ns m (loK ns k (ze ns k))).2.2 (zo d op (zo d op ns m (loK ns k (ze ns k))).1 (zo d op ns m (loK ns k (ze ns k))).2.1 (hiK ns k (ze ns k))).2.2).2):=by
 conv=>lhs;unfold zo
 rw[hk];simp only;rw[hn]
section
variable {B s b wk dm:Nat} {O:Nat->Prop} {F:FuncId} {op:Bool} {vars:Nat} {room:Int} {ns:List Nd} {m:List (Nd × Int)} {w:World} {k:Nd}
theorem zmZ(hroom:room<=4000)(hF:Q9 F op)(d:Nat)(ih:zdb B s b wk dm F op vars room d)(h:WS B w s b wk dm O F op vars room ns m)(h3:yJ ns k)(hd:24<=ze ns k+(d+1:Nat))(hlc:((cnt ns+2^rk vars ns k:Nat):Int)<=room+1)(hl:ns.length+2^rk vars ns k<=90000)(hm:m.length+2^rk vars ns k<=90000)
  (hk:qB op k=none) (hn:look m k=none) :
  zC 172 #[.pointer (some ⟨wk,0,none⟩),k.val] w (Yp B s b wk dm O F op vars room (zo (d+1) op ns m k) w):=by
 have pge:=Nat.one_le_two_pow (n:=rk vars ns k);have hlen:ns.length<=90000:=by omega
 have hr:=h.good.ranked;have hv:=Xs hr h3 hk;have hv0:=(Qb hr k).1;have hok:=zdt h3 (by omega);have hnk:=zhv hn;have hvv:=Ja h.good hv;obtain⟨l3,lt⟩:=JU hr h3 hv;obtain⟨g3,gt⟩:=zav hr h3 hv;have hpow:2^rk vars ns k=2^(rk vars ns k-1)+2^(rk vars ns k-1):=by
  have:1<=rk vars ns k:=by unfold rk;omega
  obtain⟨q,hq⟩:∃q,rk vars ns k=q+1:=⟨rk vars ns k-1,by omega⟩;rw[hq,Nat.add_sub_cancel,Nat.pow_succ];omega
 have pg1:=Nat.one_le_two_pow (n:=rk vars ns k-1);have p1:2^rk vars ns (loK ns k (ze ns k))<=2^(rk vars ns k-1):=Nat.pow_le_pow_right (by omega) (by unfold rk;omega);have i1:=ZU (op:=op) d ns m (loK ns k (ze ns k)) h.good h.memo l3 (by omega) (by omega);have hall:=ZU (op:=op) (d+1) ns m k h.good h.memo h3 hd (by omega);rw[zfS hk hn] at hall ⊢;have C1:=ih ns m (loK ns k (ze ns k)) O;generalize zo d op ns m (loK ns k (ze ns k))=r1 at *;have g3':=g3.ext i1.ext;have gm:=YN g3 i1.ext;have p2:2^rk vars r1.1 (hiK ns k (ze ns k))<=2^(rk vars ns k-1):=Nat.pow_le_pow_right (by omega) (by unfold rk;rw[gm];omega);have l1:=i1.len;have cc1:=i1.cnt;have m1:=i1.mlen;have i2:=ZU (op:=op) d r1.1 r1.2.1 (hiK ns k (ze ns k)) i1.good i1.memo g3' (by rw[gm];omega) (by omega);have C2:=fun O'=>ih r1.1 r1.2.1 (hiK ns k (ze ns k)) O';generalize zo d op r1.1 r1.2.1 (hiK ns k (ze ns k))=r2 at *;have l2:=i2.len;have cc2:=i2.cnt;have m2:=i2.mlen;have h1':=i2.ext.has _ i1.has;have t1':za r2.1 r1.2.2=za r1.1 r1.2.2:=i2.ext.top _ i1.has;have i3:=QZ i2.good (v:=ze ns k) (l:=r1.2.2) (h:=r2.2.2) (by omega) hv0 hv hvv h1' i2.has (by rw[t1'];have:=i1.top;omega) (by have:=i2.top;rw[gm] at this;omega);have HC1:Hid (∀W,zB w W->zC 172 #[.pointer (some ⟨wk,0,none⟩),(loK ns k (ze ns k)).val] W (Yp B s b wk dm O F op vars room r1 W)):=fun W hW=>C1 W (h.new hW) l3 (by omega) (by omega) (by omega) (by omega);have HC2:Hid (∀O' W,WS B W s b wk dm O' F op vars room r1.1 r1.2.1->zC 172 #[.pointer (some ⟨wk,0,none⟩),(hiK ns k (ze ns k)).val] W (Yp B s b wk dm O' F op vars room r2 W)):=fun O' W hW=>C2 O' W hW g3' (by rw[gm];omega) (by omega) (by omega) (by omega);have HC3:Hid (∀O' W,zm B W s b O' vars room r2.1->B<=W.heap.size->zC 169 #[.pointer (some ⟨s,0,none⟩),.int .i64 (ze ns k),.int .i64 r1.2.2,.int .i64 r2.2.2] W fun e w'=>e=.returned (.tuple #[.int .i64 (yd r2.1 (ze ns k) r1.2.2 r2.2.2).2,.nilIface])/\∃O'',zm B w' s b O'' vars room (yd r2.1 (ze ns k) r1.2.2 r2.2.2).1/\zI O' O'' W w'):=fun O' W hW hBW =>
  Jm hW (by omega) (by omega) hBW (ze ns k) r1.2.2 r2.2.2 hv0 hv h1' i2.has (by rw[t1'];have:=i1.top;omega) (by have:=i2.top;rw[gm] at this;omega)
 generalize yd r2.1 (ze ns k) r1.2.2 r2.2.2=r3 at *;have HI2:=zH i2;have HI3:=zH i3;have HALL:=zH hall;have hml2:r2.2.1.length<=90000:=by omega
 clear C1 C2 i1 i2 i3 hall l3 lt g3 gt hpow pg1 p1 g3' gm p2 l1 m1 l2 m2 cc1 cc2 h1' t1';have HW:=zH h;have H3:=zH h3;have c0:=h.work.c0;have c1:=h.work.c1;have c2:=h.work.c2;have wl:=h.work.lt;have sl:=h.space.slt;have s0:=h.space.c0;have HL:Hid (∀W,zB w W->(Instr.lookup 294 (.map (some dm)) (.agg #[.int .i64 k.v,.int .i64 k.l,.int .i64 k.h]) true).run Tryz.prog W=.ok (.tuple #[.int .i64 0,.bool false]) W):=fun W hW=>by
  obtain⟨D,hD,hR⟩:=(h.work.new hW).hmap;exact zj6 hD hR hok hnk
 have HK:Hid (∀W,zR F #[k.val] W (.tuple #[.int .i64 0,.bool false])):=fun W=>by
  have:=hF.does k W;rw[hk] at this;exact this
 have HT:Hid (∀(x:Int) (W:World),I64 x->zB w W->zC 64 #[.pointer (some ⟨b,0,none⟩),.int .i64 x] W fun e w'=>e=.returned (.int .i64 (za ns x))/\W=w'):=fun x W hx hW=>KQ (h.space.new hW) x hx (by omega);have HSD:Hid (∀(x:Int) (W:World),I64 x->zB w W->zR 198 #[.pointer (some ⟨s,0,none⟩),.int .i64 x,.int .i64 (ze ns k)] W (.tuple #[.int .i64 (loS ns x (ze ns k)),.int .i64 (hiS ns x (ze ns k))])):=fun x W hx hW=>zmR (h.space.new hW) (by omega) x _ hx hv;have hent:=hF.enters;have hmin:=@zfD Tryz.prog;have HOK:=zH hok;have hMT:ze ns k=min (min (za ns k.v) (za ns k.l)) (za ns k.h):=rfl;have HMT:=zH hMT;clear h h3 ih hF hk hnk hn hok hMT hd;have hb:=below_new w (.cells #[.int .i64 k.v,.int .i64 k.l,.int .i64 k.h] 235);obtain⟨x0,x1,x2,-⟩:=xH w (.int .i64 k.v) (.int .i64 k.l) (.int .i64 k.h) 235;have d1:=(hb.cell (p:=⟨wk,1,none⟩) wl).trans c1;have bl:w.heap.size<(w.alloc (.cells #[.int .i64 k.v,.int .i64 k.l,.int .i64 k.h] 235)).heap.size:=by simp
 have hbs:=hb.size;have wl1:wk<(w.alloc (.cells #[.int .i64 k.v,.int .i64 k.l,.int .i64 k.h] 235)).heap.size:=by omega
 have TB:=zH (Ys w k.v k.l k.h 235);unfold Nd.val at HK ⊢;go_enter Tryz.func172,Tryz.ntmps172;go_wp2_with fail;have HB:=zH hb;clear hb;generalize (w.alloc (.cells #[.int .i64 k.v,.int .i64 k.l,.int .i64 k.h] 235))=W1 at *;have e0:W1.drew.cell? ⟨wk,1,none⟩=some (.func (.func F) #[] #[]):=d1;have f0:W1.drew.cell? ⟨w.heap.size,0,none⟩=some (.int .i64 k.v):=x0;have f1:W1.drew.cell? ⟨w.heap.size,1,none⟩=some (.int .i64 k.l):=x1;have f2:W1.drew.cell? ⟨w.heap.size,2,none⟩=some (.int .i64 k.h):=x2;go_region_held3 (fun w'=>w'.cell? ⟨wk,1,none⟩=some (.func (.func F) #[] #[])/\w'.cell? ⟨w.heap.size,0,none⟩=some (.int .i64 k.v)/\w'.cell? ⟨w.heap.size,1,none⟩=some (.int .i64 k.l)/\w'.cell? ⟨w.heap.size,2,none⟩=some (.int .i64 k.h)) (first|exact⟨e0,f0,f1,f2⟩|exact⟨(hb2.cell (p:=⟨wk,1,none⟩) wl1).trans e0,(hb2.cell (p:=⟨w.heap.size,0,none⟩) bl).trans f0,(hb2.cell (p:=⟨w.heap.size,1,none⟩) bl).trans f1,(hb2.cell (p:=⟨w.heap.size,2,none⟩) bl).trans f2⟩)
  (first|(with_reducible refine(HK.out _).mono ?_;rintro e w2 ⟨rfl,hb2⟩))
 have hb3:zB w w2:=(HB.out.drew).trans (hb2.mono HB.out.size);have g0:w2.drew.cell? ⟨w.heap.size,0,none⟩=some (.int .i64 k.v):=(hb2.cell (p:=⟨w.heap.size,0,none⟩) bl).trans f0;have g1:w2.drew.cell? ⟨w.heap.size,1,none⟩=some (.int .i64 k.l):=(hb2.cell (p:=⟨w.heap.size,1,none⟩) bl).trans f1;have g2:w2.drew.cell? ⟨w.heap.size,2,none⟩=some (.int .i64 k.h):=(hb2.cell (p:=⟨w.heap.size,2,none⟩) bl).trans f2;have gm:w2.drew.cell? ⟨wk,2,none⟩=some (.map (some dm)):=(hb3.cell (p:=⟨wk,2,none⟩) wl).trans c2;have hrun:=HL.out _ hb3.drew;have bl2:w.heap.size<w2.heap.size:=Nat.lt_of_lt_of_le bl hb2.size;have TB2:Hid (Tri w2.drew w.heap.size k.v k.l k.h):=((TB.out.new zF.drew).new hb2).new zF.drew;clear TB;clear e0 f0 f1 f2 HK HL d1 x0 x1 x2 hent hb2 HB;go_wp2_with fail;go_region_held3 (fun w'=>w'.cell? ⟨wk,2,none⟩=some (.map (some dm))/\w'.cell? ⟨w.heap.size,0,none⟩=some (.int .i64 k.v)/\w'.cell? ⟨w.heap.size,1,none⟩=some (.int .i64 k.l)/\w'.cell? ⟨w.heap.size,2,none⟩=some (.int .i64 k.h)) (exact⟨gm,g0,g1,g2⟩) (first|fail);clear hrun;have HB3:=zH hb3.drew;have bl3:w.heap.size<w2.drew.heap.size:=bl2;clear hb3;generalize w2.drew=W3 at *;have SC:Hid (∀X,zB W3 X->(X.cell? ⟨wk,0,none⟩=some (.pointer (some ⟨s,0,none⟩))/\X.cell? ⟨s,0,none⟩=some (.pointer (some ⟨b,0,none⟩))/\X.cell? ⟨w.heap.size,0,none⟩=some (.int .i64 k.v)/\X.cell? ⟨w.heap.size,1,none⟩=some (.int .i64 k.l)/\X.cell? ⟨w.heap.size,2,none⟩=some (.int .i64 k.h))):=fun X hX =>
  ⟨((zT HB3.out hX).cell (p:=⟨wk,0,none⟩) wl).trans c0,((zT HB3.out hX).cell (p:=⟨s,0,none⟩) sl).trans s0,(hX.cell (p:=⟨w.heap.size,0,none⟩) bl3).trans g0,(hX.cell (p:=⟨w.heap.size,1,none⟩) bl3).trans g1,(hX.cell (p:=⟨w.heap.size,2,none⟩) bl3).trans g2⟩
 have D0:zB W3 W3.drew:=zF.drew;have T0:=HOK.out.1;have T1:=HOK.out.2.1;have T2:=HOK.out.2.2;clear g0 g1 g2 gm;go_wp2_with fail;go_region_held3 (fun X=>X.cell? ⟨wk,0,none⟩=some (.pointer (some ⟨s,0,none⟩))/\X.cell? ⟨s,0,none⟩=some (.pointer (some ⟨b,0,none⟩))/\X.cell? ⟨w.heap.size,0,none⟩=some (.int .i64 k.v)/\X.cell? ⟨w.heap.size,1,none⟩=some (.int .i64 k.l)/\X.cell? ⟨w.heap.size,2,none⟩=some (.int .i64 k.h)) (exact SC.out _ D0)
  (first|(go_at_call 64;with_reducible refine(HT.out _ _ (by first|exact T0|exact T1|exact T2) HB3.out.drew).mono ?_;rintro e wz ⟨rfl,rfl⟩))
 have hmn:min (za ns k.v) (min (za ns k.l) (za ns k.h))=ze ns k:=by unfold ze;omega
 rw[hmn];clear hmn hmin HT HMT;have HB4:=zH HB3.out.drew;have SDx:Hid (∀X,Below W3.drew.heap.size W3.drew X->X.cell? ⟨wk,0,none⟩=some (.pointer (some ⟨s,0,none⟩))/\Tri X w.heap.size k.v k.l k.h):=fun X hX=>⟨((zT HB4.out hX).cell (p:=⟨wk,0,none⟩) wl).trans c0,(TB2.out.new zF.drew).new hX⟩;generalize za ns k.v=tv at *;generalize za ns k.l=tl at *;generalize za ns k.h=th at *;have bl4:w.heap.size<W3.drew.heap.size:=bl3;clear SC D0 TB2;generalize W3.drew=W4 at *;obtain⟨g0,g1⟩:=SDx.out _ (Below.refl _ W4);have q0:=g1.c0;have q1:=g1.c1;have q2:=g1.c2;have zz:(W4.alloc (.cells #[.int .i64 0,.int .i64 0,.int .i64 0] 235)).heap.size=W4.heap.size+1:=by simp
 have TL:=zH ((Ys W4 0 0 0 235).new (below_new _ (.cells #[.int .i64 0,.int .i64 0,.int .i64 0] 235)));have TH0:=Ys (W4.alloc (.cells #[.int .i64 0,.int .i64 0,.int .i64 0] 235)) 0 0 0 235;rw[zz] at TH0;have TH:=zH TH0;have B5:Hid (zB W4 ((W4.alloc (.cells #[.int .i64 0,.int .i64 0,.int .i64 0] 235)).alloc (.cells #[.int .i64 0,.int .i64 0,.int .i64 0] 235))):=(below_new W4 _).alloc (below_new W4 _).size _;clear TH0 zz;generalize ze ns k=v at *;have KV:=zH T0;have KL:=zH T1;have KH:=zH T2;clear T0 T1 T2;go_wp2_with fail;go_loopw [73] (fun i wr=>zB W4 wr/\(
   (i=.int .i64 0/\Tri wr W4.heap.size 0 0 0/\Tri wr (W4.heap.size+1) 0 0 0) \/
   (i=.int .i64 1/\Tri wr W4.heap.size (loS ns k.v v) 0 0/\Tri wr (W4.heap.size+1) (hiS ns k.v v) 0 0) \/
   (i=.int .i64 2/\Tri wr W4.heap.size (loS ns k.v v) (loS ns k.l v) 0/\Tri wr (W4.heap.size+1) (hiS ns k.v v) (hiS ns k.l v) 0) \/
   (i=.int .i64 3/\Tri wr W4.heap.size (loS ns k.v v) (loS ns k.l v) (loS ns k.h v)/\Tri wr (W4.heap.size + 1) (hiS ns k.v v) (hiS ns k.l v) (hiS ns k.h v))))
  (fun i _=>3-(intOf i).toNat)
 case atStart=>exact⟨B5.out,.inl ⟨rfl,TL.out,TH.out⟩⟩
 case round =>
  obtain⟨hbr,hrel⟩:=hrel;obtain⟨y0,-⟩:=SDx.out _ hbr;have hbw:=zT HB4.out hbr;have hbrs:=hbr.size;have HBR:=zH hbr;clear TL TH B5 hbr;rcases hrel with ⟨rfl,t1,t2⟩|⟨rfl,t1,t2⟩|⟨rfl,t1,t2⟩|⟨rfl,t1,t2⟩
  ·have HC:=zH (HSD.out k.v wr KV.out hbw);generalize loS ns k.v v=lo at *;generalize hiS ns k.v v=hi at *;have T1':=zH t1;have T2':=zH t2;clear t1 t2 hbw;have hix:=zjo;go_wp2_with fail;clear hix;refine HC.out.mono ?_;rintro e w5 ⟨rfl,hb5⟩;have u1:=T1'.out.new hb5;have u2:=T2'.out.new hb5;have z0:=u1.c0;have z1:=u1.fz 0;have u1':=u1.set0 lo;have u2':=(u2.other (bk':=W4.heap.size) (i:=0) (.int .i64 lo) (by omega));have z2:=u2'.c0;have z3:=u2'.fz 0;have hb6:=HBR.out.trans (hb5.mono hbrs);have U1:=zH (u1'.other (bk':=W4.heap.size+1) (i:=0) (.int .i64 hi) (by omega));have U2:=zH (u2'.set0 hi);have HB6:Hid (zB W4 ((w5.setCell ⟨W4.heap.size,0,none⟩ (.int .i64 lo)).setCell ⟨W4.heap.size+1,0,none⟩ (.int .i64 hi))):=(hb6.setCell zN _).setCell (Nat.le_succ _) _;clear u1 u2 u1' u2' HC hb5 hb6;go_wp2;go_roundw
   case rel=>exact⟨HB6.out,.inr (.inl ⟨rfl,U1.out,U2.out⟩)⟩
   case measure=>simp[intOf]
  ·have HC:=zH (HSD.out k.l wr KL.out hbw);generalize loS ns k.l v=lo at *;generalize hiS ns k.l v=hi at *;have T1':=zH t1;have T2':=zH t2;clear t1 t2 hbw;have hix:=zk6;go_wp2_with fail;clear hix;refine HC.out.mono ?_;rintro e w5 ⟨rfl,hb5⟩;have u1:=T1'.out.new hb5;have u2:=T2'.out.new hb5;have z0:=u1.c1;have z1:=u1.fz 1;have u1':=u1.set1 lo;have u2':=(u2.other (bk':=W4.heap.size) (i:=1) (.int .i64 lo) (by omega));have z2:=u2'.c1;have z3:=u2'.fz 1;have hb6:=HBR.out.trans (hb5.mono hbrs);have U1:=zH (u1'.other (bk':=W4.heap.size+1) (i:=1) (.int .i64 hi) (by omega));have U2:=zH (u2'.set1 hi);have HB6:Hid (zB W4 ((w5.setCell ⟨W4.heap.size,1,none⟩ (.int .i64 lo)).setCell ⟨W4.heap.size+1,1,none⟩ (.int .i64 hi))):=(hb6.setCell zN _).setCell (Nat.le_succ _) _;clear u1 u2 u1' u2' HC hb5 hb6;go_wp2;go_roundw
   case rel=>exact⟨HB6.out,.inr (.inr (.inl ⟨rfl,U1.out,U2.out⟩))⟩
   case measure=>simp[intOf]
  ·have HC:=zH (HSD.out k.h wr KH.out hbw);generalize loS ns k.h v=lo at *;generalize hiS ns k.h v=hi at *;have T1':=zH t1;have T2':=zH t2;clear t1 t2 hbw;have hix:=zfV;go_wp2_with fail;clear hix;refine HC.out.mono ?_;rintro e w5 ⟨rfl,hb5⟩;have u1:=T1'.out.new hb5;have u2:=T2'.out.new hb5;have z0:=u1.c2;have z1:=u1.fz 2;have u1':=u1.set2 lo;have u2':=(u2.other (bk':=W4.heap.size) (i:=2) (.int .i64 lo) (by omega));have z2:=u2'.c2;have z3:=u2'.fz 2;have hb6:=HBR.out.trans (hb5.mono hbrs);have U1:=zH (u1'.other (bk':=W4.heap.size+1) (i:=2) (.int .i64 hi) (by omega));have U2:=zH (u2'.set2 hi);have HB6:Hid (zB W4 ((w5.setCell ⟨W4.heap.size,2,none⟩ (.int .i64 lo)).setCell ⟨W4.heap.size+1,2,none⟩ (.int .i64 hi))):=(hb6.setCell zN _).setCell (Nat.le_succ _) _;clear u1 u2 u1' u2' HC hb5 hb6;go_wp2;go_roundw
   case rel=>exact⟨HB6.out,.inr (.inr (.inr ⟨rfl,U1.out,U2.out⟩))⟩
   case measure=>simp[intOf]
  ·have hlo:(loK ns k v).val=.agg #[.int .i64 (loS ns k.v v),.int .i64 (loS ns k.l v),.int .i64 (loS ns k.h v)]:=rfl;have hhi:(hiK ns k v).val=.agg #[.int .i64 (hiS ns k.v v),.int .i64 (hiS ns k.l v),.int .i64 (hiS ns k.h v)]:=rfl;rw[hlo] at HC1;rw[hhi] at HC2;clear hlo hhi HSD;generalize loS ns k.v v=la at *;generalize loS ns k.l v=lb at *;generalize loS ns k.h v=lc at *;generalize hiS ns k.v v=ha at *;generalize hiS ns k.l v=hb at *;generalize hiS ns k.h v=hc at *;have TK:=zH (SDx.out _ HBR.out).2;have z0:=t1.c0;have z1:=t1.c1;have z2:=t1.c2;have HT2:=zH t2;have HC1':=zH (HC1.out _ hbw);have HBW:=zH hbw;have OO:=zH (fun j (ho:O j)=>(HW.out.space.own j ho).2);have dl:=HW.out.work.dlt;clear HC1 t1 t2 hbw SDx;go_wp2_with fail;refine HC1'.out.mono ?_;rintro e w7 ⟨rfl,O1,hw7,mm7⟩;have hs7:=mm7.size;have t27:Tri w7 (W4.heap.size+1) ha hb hc:=HT2.out.kept mm7.kept (fun ho=>ho.elim (fun h=>by have:=OO.out _ h;omega) (fun h=>by omega));have tk7:Tri w7 w.heap.size k.v k.l k.h:=TK.out.kept mm7.kept (fun ho=>ho.elim (fun h=>by have:=OO.out _ h;omega) (fun h=>by omega));have z3:=t27.c0;have z4:=t27.c1;have z5:=t27.c2;have HC2':=zH (HC2.out O1 w7 hw7);have HTK:=zH tk7;have HM7:=zH mm7;clear HC1' HC2 HT2 TK t27 tk7 mm7 z0 z1 z2;go_wp2_with fail;refine HC2'.out.mono ?_;rintro e w8 ⟨rfl,O2,hw8,mm8⟩;have hs8:=mm8.size;have dl7:dm<w7.heap.size:=by omega
   have o17:¬O1 w.heap.size:=HM7.out.beside (by omega) (fun h=>by have:=OO.out _ h;omega);have tk8:Tri w8 w.heap.size k.v k.l k.h:=HTK.out.kept mm8.kept (fun ho=>ho.elim o17 (fun h=>by omega));have o28:¬O2 w.heap.size:=mm8.beside (by omega) o17;have y8:=hw8.work.c0;have HC3':=zH (HC3.out O2 w8 hw8.space hw8.hB);have HTK8:=zH tk8;have HM8:=zH (HM7.out.trans mm8);have HW8:=zH hw8;clear HC2' HC3 HTK HM7 tk8 mm8 hw8 z3 z4 z5;go_wp2_with fail;refine HC3'.out.mono ?_;rintro e w9 ⟨rfl,O3,hs9,mv9⟩;have hw9:=HW8.out.moved hs9 mv9 HI3.out.good HI3.out.ext;have tk9:Tri w9 w.heap.size k.v k.l k.h:=HTK8.out.kept mv9.kept o28;have mm9:=HM8.out.trans (MM.of_moves (dm:=dm) mv9);have hw9d:=hw9.new (Below.refl _ w9).drew;obtain⟨D,hD,hR⟩:=hw9d.work.hmap;obtain⟨w10,D',hrun,hD',hR',hK⟩:=ziW hD hR (by omega) HOK.out (x:=r3.2) HI3.out.i64;have a0:w9.drew.cell? ⟨wk,2,none⟩=some (.map (some dm)):=hw9.work.c2;have tk9d:=tk9.new (Below.refl _ w9).drew;have a1:=tk9d.c0;have a2:=tk9d.c1;have a3:=tk9d.c2;have hne:wk≠dm:=fun e=>hw9.work.d e.symm;have hbne:w.heap.size≠dm:=by omega
   have hl9:=hw9d.work.lt;have b0:=(hK.cell (a:=⟨wk,2,none⟩) hl9 hne).trans a0;have tk10:=tk9d.kept hK hbne;have b1:=tk10.c0;have b2:=tk10.c1;have b3:=tk10.c2;have hfin:WS B w10 s b wk dm O3 F op vars room r3.1 (Zo r2.2.1 k r3.2) :=
    ⟨hw9d.space.kept hK (fun j ho e=>hw9.o2 (e▸ho)) hw9.sd,hw9d.work.turned hK hD' hR',HALL.out.good,HALL.out.memo,hw9.o1,hw9.o2,hw9.sd,Nat.le_trans hw9d.hB hK.size⟩
   have hmm:MM O O3 dm w w10:=by
    have h1:MM O O3 dm w w9:=(MM.of_below HBW.out).trans mm9;have h2:MM O3 O3 dm w9 w10:=⟨(zb.refl _ w9).drew.andThen (hK.mono (fun j hj=>.inr hj)) (fun j hj _=>hj),fun _ h=>.inl h,fun j hj=>(Classical.em (qk w9 j)).imp (fun c=>qk.kept (w:=w9.drew) c hK (fun e=>hw9.o2 (e▸hj))) (fun n=>⟨hj,n⟩)⟩;exact h1.trans h2
   have HFIN:=zH hfin;have HMM:=zH hmm;clear HC3' HTK8 HM8 HW8 hs9 mv9 hw9 tk9 mm9 hw9d hD hR hD' hR' hK tk9d tk10 hfin hmm HALL y8;go_wp2_with fail;go_region_held3 (fun X=>X.cell? ⟨wk,2,none⟩=some (.map (some dm))/\X.cell? ⟨w.heap.size,0,none⟩=some (.int .i64 k.v)/\X.cell? ⟨w.heap.size,1,none⟩=some (.int .i64 k.l)/\X.cell? ⟨w.heap.size,2,none⟩=some (.int .i64 k.h)) (first|exact⟨a0,a1,a2,a3⟩|exact⟨b0,b1,b2,b3⟩) (first|fail);go_wp2;go_ret2;exact⟨rfl,O3,HFIN.out,HMM.out⟩
theorem zbo(hroom:room<=4000)(hF:Q9 F op):∀d,zdb B s b wk dm F op vars room d
 |0=>fun ns m k O w h h3 hd hlc hl hm=>by
  unfold zo;cases e:qB op k with
  |none=>have:=Xs h.good.ranked h3 e;omega
  |some x=>exact zcu h hF x e
 |d+1=>fun ns m k O w h h3 hd hlc hl hm=>by
  cases e:qB op k with
  |some x =>
   have:zo (d+1) op ns m k=(ns,m,x):=by unfold zo;rw[e]
   rw[this];exact zcu h hF x e
  |none =>
   cases e2:look m k with
   |some x =>
    have:zo (d+1) op ns m k=(ns,m,x):=by unfold zo;rw[e];simp only;rw[e2]
    rw[this];exact znT h hF x e (zcm e2)
   |none=>exact zmZ hroom hF d (zbo hroom hF d) h h3 hd hlc hl hm e e2
end
end Bd
namespace Bd
open Go.RowKit Go.Maps
def ym(B s b:Nat)(O:Nat->Prop)(vars:Nat)(room:Int)(r:List Nd × Int)(w:World)(e:Ending)(w':World):Prop :=
 e=.returned (.tuple #[.int .i64 r.2,.nilIface])/\∃O',zm B w' s b O' vars room r.1/\zI O O' w w'
structure Z8(B:Nat)(w:World)(vars:Nat)(room:Int)(ns:List Nd):Prop where
 r:room<=4000
 l:((cnt ns+2^vars:Nat):Int)<=room+1
 n:ns.length+2^vars<=90000
 v:vars<=12
 hB:B<=w.heap.size
section
variable {B s b:Nat} {O:Nat->Prop} {F:FuncId} {op:Bool} {vars:Nat} {room:Int} {ns:List Nd} {w w':World}
theorem Z8.new(h:Z8 B w vars room ns)(hb:w.heap.size<=w'.heap.size):Z8 B w' vars room ns:=⟨h.r,h.l,h.n,h.v,Nat.le_trans h.hB hb⟩
theorem zi3{vars:Nat}(h:vars<=12):2^vars<=4096:=Nat.pow_le_pow_right (by omega) h
theorem zmk(w:World)(k:Nd)(hk:k.Ok)(t:TypeId):xN (w.alloc (.cells #[.int .i64 k.v,.int .i64 k.l,.int .i64 k.h] t)) w.heap.size [k.v,k.l,k.h]:=by
 obtain⟨x0,x1,x2,-⟩:=xH w (.int .i64 k.v) (.int .i64 k.l) (.int .i64 k.h) t;refine⟨by simp,fun i hi=>?_,fun z hz=>?_⟩
 ·simp at hi;obtain rfl|rfl|rfl:i=0\/i=1\/i=2:=by omega
  ·exact x0
  ·exact x1
  ·exact x2
 ·simp at hz;rcases hz with rfl|rfl|rfl
  ·exact hk.1
  ·exact hk.2.1
  ·exact hk.2.2
theorem zgL{O':Nat->Prop}{dm:Nat}{w1:World}(hb:zB w w1)(hd:w.heap.size<=dm)(h:MM O O' dm w1 w'):zI O O' w w' :=
 ⟨(zb.of_below hb _).andThen h.kept (fun i hi hlt=>hi.elim id (fun e=>by omega)),fun k hk=>by
  rcases h.own k hk with h1|h1
  ·exact .inl h1
  ·exact .inr (Nat.le_trans hb.size h1),fun k hk=>by
  rcases h.map k hk with h1|⟨h1,h2⟩
  ·exact .inl h1
  ·exact .inr ⟨h1,fun c=>h2 (c.below hb)⟩⟩
theorem zbt(hF:Q9 F op)(h:zm B w s b O vars room ns)(hg:zr vars ns)(hR:Z8 B w vars room ns)(k:Nd)(h3:yJ ns k) :
  zC 129 #[.pointer (some ⟨s,0,none⟩),.func (.func F) #[] #[],k.val] w (ym B s b O vars room (xg op ns k) w):=by
 have hone:=Nat.one_le_two_pow (n:=vars);have hr4:=hR.r;have hrl:=hR.l;have hrn:=hR.n;have p12:=zi3 hR.v;have hok:=zdt h3 (by omega);have hp:=Xg (vars:=vars) hg.ranked k;have hm0:=(Qb hg.ranked k).1;have hpr:=zaC (cp:=3) (h.new (below_new w (.cells #[.int .i64 k.v,.int .i64 k.l,.int .i64 k.h] 235))) (by omega) w.heap.size [k.v,k.l,k.h] (zmk w k hok _) (by simp) (fun x hx=>by
  simp at hx;rcases hx with rfl|rfl|rfl
  ·exact h3.a
  ·exact h3.b
  ·exact h3.c)
 rw[show [k.v,k.l,k.h].length=3 from rfl] at hpr;have HP:=zH hpr;have HBG:Hid (∀W,zB w W->zC 171 #[.pointer (some ⟨s,0,none⟩),.func (.func F) #[] #[]] W fun e w'=>∃wk dm,e=.returned (.pointer (some ⟨wk,0,none⟩))/\W.heap.size<=dm/\WS B w' s b wk dm O F op vars room ns []/\zB W w'):=fun W hW=>by
  have hs:=hW.size;have hsl:=h.slt;refine(zni s F W B (Nat.le_trans hR.hB hs)).mono fun e w' ⟨he,hwk,hb⟩=>⟨_,_,he,Nat.le_refl _,?_,hb⟩;have hSW:=(h.new hW).new hb;exact⟨hSW,hwk,hg,KP op ns,fun ho=>by have:=(h.own _ ho).2;omega,fun ho=>by have:=(h.own _ ho).2;omega,by omega,Nat.le_trans hR.hB (Nat.le_trans hs hb.size)⟩
 have HMK:Hid (∀wk dm W,WS B W s b wk dm O F op vars room ns []->zC 172 #[.pointer (some ⟨wk,0,none⟩),k.val] W fun e w'=>e=.returned (.tuple #[.int .i64 (zo 24 op ns [] k).2.2,.nilIface])/\∃O',WS B w' s b wk dm O' F op vars room (zo 24 op ns [] k).1 (zo 24 op ns [] k).2.1/\MM O O' dm W w'):=fun wk dm W hW =>
  zbo hr4 hF 24 ns [] k O W hW h3 (by omega) (by omega) (by omega) (by simp;omega)
 have hb:=below_new w (.cells #[.int .i64 k.v,.int .i64 k.l,.int .i64 k.h] 235);obtain⟨x0,x1,x2,-⟩:=xH w (.int .i64 k.v) (.int .i64 k.l) (.int .i64 k.h) 235;have bl:w.heap.size<(w.alloc (.cells #[.int .i64 k.v,.int .i64 k.l,.int .i64 k.h] 235)).heap.size:=by simp
 unfold xg;generalize zo 24 op ns [] k=r at *;unfold Nd.val at HMK ⊢;have OO:Hid (∀j,O j->j<w.heap.size):=fun j ho=>(h.own j ho).2;clear hpr h hg hR h3 hok hp hF;go_enter Tryz.func129,Tryz.ntmps129;go_wp2_with fail;refine HP.out.mono ?_;rintro e w1 ⟨rfl,rfl⟩;clear HP;have HB:=zH hb;clear hb;go_wp2_with fail;generalize (w.alloc (.cells #[.int .i64 k.v,.int .i64 k.l,.int .i64 k.h] 235))=W1 at *;have f0:W1.drew.cell? ⟨w.heap.size,0,none⟩=some (.int .i64 k.v):=x0;have f1:W1.drew.cell? ⟨w.heap.size,1,none⟩=some (.int .i64 k.l):=x1;have f2:W1.drew.cell? ⟨w.heap.size,2,none⟩=some (.int .i64 k.h):=x2;have bl':w.heap.size<W1.drew.heap.size:=bl;have HBX:Hid (∀w2,Below W1.drew.heap.size W1.drew w2->zB w w2):=fun w2 hb2=>HB.out.drew.trans (hb2.mono HB.out.size);have SKL:Hid (∀w2 w3 O' dm,Below W1.drew.heap.size W1.drew w2->W1.drew.heap.size<=dm->MM O O' dm w2 w3->w3.cell? ⟨w.heap.size,0,none⟩=some (.int .i64 k.v)/\w3.cell? ⟨w.heap.size,1,none⟩=some (.int .i64 k.l)/\w3.cell? ⟨w.heap.size,2,none⟩=some (.int .i64 k.h)):=fun w2 w3 O' dm hb2 hdm mm=>by
  have h2:w.heap.size<w2.heap.size:=Nat.lt_of_lt_of_le bl' hb2.size;have ho:¬O w.heap.size:=fun h=>by have:=OO.out _ h;omega
  have hd:w.heap.size≠dm:=by omega
  exact⟨(mm.cell (a:=⟨w.heap.size,0,none⟩) h2 ho hd).trans ((hb2.cell (p:=⟨w.heap.size,0,none⟩) bl').trans f0),(mm.cell (a:=⟨w.heap.size,1,none⟩) h2 ho hd).trans ((hb2.cell (p:=⟨w.heap.size,1,none⟩) bl').trans f1),(mm.cell (a:=⟨w.heap.size,2,none⟩) h2 ho hd).trans ((hb2.cell (p:=⟨w.heap.size,2,none⟩) bl').trans f2)⟩
 go_cut [6,7] (fun a c wx=>a=.int .i64 r.2.2/\c=.nilIface/\∃O',zm B wx s b O' vars room r.1/\zI O O' w wx)
 case first =>
  go_region_held3 (fun X=>X.cell? ⟨w.heap.size,0,none⟩=some (.int .i64 k.v)/\X.cell? ⟨w.heap.size,1,none⟩=some (.int .i64 k.l)/\X.cell? ⟨w.heap.size,2,none⟩=some (.int .i64 k.h)) (first|exact⟨f0,f1,f2⟩|exact⟨(hb2.cell (p:=⟨w.heap.size,0,none⟩) bl').trans f0,(hb2.cell (p:=⟨w.heap.size,1,none⟩) bl').trans f1,(hb2.cell (p:=⟨w.heap.size,2,none⟩) bl').trans f2⟩|exact SK)
   (first
    |(go_at_call 171;with_reducible refine(HBG.out _ HB.out.drew).mono ?_;rintro e w2 ⟨wk,dm,rfl,hdm,hws,hb2⟩)
    | (go_at_call 172;with_reducible refine (HMK.out _ _ _ hws).mono ?_;rintro e w3 ⟨rfl,O',hw3,mm3⟩;have hb3:=HBX.out _ hb2;have SK:=SKL.out _ _ _ _ hb2 hdm mm3))
  all_goals
   go_wp2_with fail;go_meet
   case rel=>exact⟨rfl,rfl,O',hw3.space,zgL hb3 (by omega) mm3⟩
 case rest =>obtain⟨rfl,rfl,hO⟩:=hcut;go_wp2;go_ret2;exact⟨rfl,hO⟩
theorem ziM(x y:Int)(w:World):zR 131 #[.int .i64 x,.int .i64 y] w (.agg #[.int .i64 x,.int .i64 y,.int .i64 0]):=by
 have hb:=below_new w (.cells #[.int .i64 x,.int .i64 y,.int .i64 0] 235);go_enter Tryz.func131,Tryz.ntmps131;go_wp2;exact bodyPost_ret (v:=.agg #[.int .i64 x,.int .i64 y,.int .i64 0]) (by simp[results,Tryz.results131,go_sem]) rfl ⟨rfl,hb⟩
theorem ziB(x y:Int)(w:World):zR 170 #[.int .i64 x,.int .i64 y] w (.agg #[.int .i64 x,.int .i64 1,.int .i64 y]):=by
 have hb:=below_new w (.cells #[.int .i64 x,.int .i64 1,.int .i64 y] 235);go_enter Tryz.func170,Tryz.ntmps170;go_wp2;exact bodyPost_ret (v:=.agg #[.int .i64 x,.int .i64 1,.int .i64 y]) (by simp[results,Tryz.results170,go_sem]) rfl ⟨rfl,hb⟩
theorem ym.later{r:List Nd × Int}{w1:World}{e:Ending}(hb:zB w w1)(h:ym B s b O vars room r w1 e w'):ym B s b O vars room r w e w':=by
 obtain⟨he,O',hS,hM⟩:=h;exact⟨he,O',hS,(zI.of_below O hb).trans hM⟩
theorem zgG(h:zm B w s b O vars room ns)(hg:zr vars ns)(hR:Z8 B w vars room ns)(x y:Int)(h1:zg ns x=true)(h2:zg ns y=true) :
  zC 90 #[.pointer (some ⟨s,0,none⟩),.int .i64 x,.int .i64 y] w (ym B s b O vars room (xg true ns ⟨x,y,0⟩) w):=by
 have HC:Hid (∀W,zB w W->zC 129 #[.pointer (some ⟨s,0,none⟩),.func (.func 130) #[] #[],.agg #[.int .i64 x,.int .i64 y,.int .i64 0]] W (ym B s b O vars room (xg true ns ⟨x,y,0⟩) W)):=fun W hW =>
  zbt zcz (h.new hW) hg (hR.new hW.size) ⟨x,y,0⟩ ⟨h1,h2,ZK ns⟩
 generalize xg true ns ⟨x,y,0⟩=r at *;clear h hg hR h1 h2;go_enter Tryz.func90,Tryz.ntmps90;go_wp2_with fail;refine(ziM x y w).mono ?_;rintro e w1 ⟨rfl,hb1⟩;have HC':=zH (HC.out w1 hb1);clear HC;go_wp2_with fail;refine HC'.out.mono ?_;rintro e w' ⟨rfl,hO⟩;go_wp2;go_ret2;exact ym.later hb1 ⟨rfl,hO⟩
theorem zif(h:zm B w s b O vars room ns)(hg:zr vars ns)(hR:Z8 B w vars room ns)(x y:Int)(h1:zg ns x=true)(h2:zg ns y=true) :
  zC 128 #[.pointer (some ⟨s,0,none⟩),.int .i64 x,.int .i64 y] w (ym B s b O vars room (xg true ns ⟨x,1,y⟩) w):=by
 have HC:Hid (∀W,zB w W->zC 129 #[.pointer (some ⟨s,0,none⟩),.func (.func 130) #[] #[],.agg #[.int .i64 x,.int .i64 1,.int .i64 y]] W (ym B s b O vars room (xg true ns ⟨x,1,y⟩) W)):=fun W hW =>
  zbt zcz (h.new hW) hg (hR.new hW.size) ⟨x,1,y⟩ ⟨h1,xE ns,h2⟩
 generalize xg true ns ⟨x,1,y⟩=r at *;clear h hg hR h1 h2;go_enter Tryz.func128,Tryz.ntmps128;go_wp2_with fail;refine(ziB x y w).mono ?_;rintro e w1 ⟨rfl,hb1⟩;have HC':=zH (HC.out w1 hb1);clear HC;go_wp2_with fail;refine HC'.out.mono ?_;rintro e w' ⟨rfl,hO⟩;go_wp2;go_ret2;exact ym.later hb1 ⟨rfl,hO⟩
theorem zjD(h:zm B w s b O vars room ns)(hR:Z8 B w vars room ns)(v:Int)(is:Bool)(hv0:0<=v)(hv:v<(vars:Int)) :
  zC 127 #[.pointer (some ⟨s,0,none⟩),.int .i64 v,.bool is] w (ym B s b O vars room (xt ns v is) w):=by
 have h1:1<=vars:=by omega
 have h2:2<=2^vars:=by
  obtain⟨q,rfl⟩:∃q,vars=q+1:=⟨vars-1,by omega⟩;have:=Nat.one_le_two_pow (n:=q);rw[Nat.pow_succ];omega
 have hr4:=hR.r;have hrl:=hR.l;have hrn:=hR.n;have hv12:=hR.v;have HV:=zH (zja h v hv0 hv);unfold xt;cases is with
 |true =>rw[if_pos rfl];have HN:=zH (Jm h (by omega) (by omega) hR.hB v 0 1 hv0 (by omega) (ZK ns) (xE ns) (by rw[Yt];omega) (by rw[Qs];omega));generalize yd ns v 0 1=r at *;clear h hR;go_enter Tryz.func127,Tryz.ntmps127;go_wp2_with fail;refine HV.out.mono ?_;rintro e w1 ⟨rfl,rfl⟩;go_wp2_with fail;refine HN.out.mono ?_;rintro e w' ⟨rfl,hO⟩;go_wp2;go_ret2;exact⟨rfl,hO⟩
 |false =>rw[if_neg (by simp)];have HN:=zH (Jm h (by omega) (by omega) hR.hB v 1 0 hv0 (by omega) (xE ns) (ZK ns) (by rw[Qs];omega) (by rw[Yt];omega));generalize yd ns v 1 0=r at *;clear h hR;go_enter Tryz.func127,Tryz.ntmps127;go_wp2_with fail;refine HV.out.mono ?_;rintro e w1 ⟨rfl,rfl⟩;go_wp2_with fail;refine HN.out.mono ?_;rintro e w' ⟨rfl,hO⟩;go_wp2;go_ret2;exact⟨rfl,hO⟩
end
end Bd
namespace Bd
open Go.RowKit Go.Maps
theorem QQ:Keyed Tryz.prog 3:=int_keyed Tryz.underlying3
theorem QA{x:Int}(h:I64 x):keyOf Tryz.prog 3 (.int .i64 x)=some (.int .i64 x):=keyOf_int_mk Tryz.underlying3 (Kn h)
end Bd
namespace Bd
open Go.RowKit Go.Maps
theorem JP{ns:List Nd}{x:Int}(e:za ns x≠24):zj ns x=nd ns (pl x):=by unfold zj;rw[if_neg e];rfl
end Bd
end Go.Proofs.YtjmfeefogikdfaaGreatDoor
