/- The way that costs the least is the least: plain. -/
import Derived.Test.YtiihalknffbjpaaGreatDoorWyBelow
namespace Go.Proofs.YtiihalknffbjpaaGreatDoor
set_option maxHeartbeats 4000000
set_option maxRecDepth 100000
namespace Bd
open Go.RowKit Go.Maps Go.Deep
section
variable {W0:World} {B p s b:Nat} {O:Nat->Prop} {vars:Nat} {room:Int} {st:List Nd × Int} {F:FuncId} {cb:Array Value} {C:zej} {dk:Nat} {W X X':World} {ns:List Nd} {nb:Nat} {gv gl gh:Int}
structure NQ(C:zej)(W0 W:World)(p dk vars:Nat)(ns:List Nd)(F:FuncId)(cb:Array Value)(nb:Nat)(gv gl gh:Int)(q:Nat)(x:Wy)(X:World):Prop where
 ns:NS C W0 W p dk vars ns F cb nb gv gl gh X
 bx:Blk X q 279 #[.int .u64 x.items,.int .i64 x.cost,.bool x.can]
 q1:W.heap.size+1<q
 qn:q≠nb
theorem NS.box(h:NS C W0 W p dk vars ns F cb nb gv gl gh X)(x:Wy):NQ C W0 W p dk vars ns F cb nb gv gl gh X.heap.size x (X.alloc (.cells #[.int .u64 x.items,.int .i64 x.cost,.bool x.can] 279)) :=
 ⟨h.below (Go.Proofs.YtiihalknffbjpaaGreatDoor.below_new X _),Blk.new _ _ _,by have:=h.w1.lt;have:=h.q1;have:=h.w2.lt;omega,by have:=h.w2.lt;omega⟩
theorem NS.box0(h:NS C W0 W p dk vars ns F cb nb gv gl gh X):NQ C W0 W p dk vars ns F cb nb gv gl gh X.heap.size ⟨0,0,false⟩ (X.alloc (.cells #[.int .u64 0,.int .i64 0,.bool false] 279)):=h.box ⟨0,0,false⟩
theorem NQ.kept{q:Nat}{x:Wy}(h:NQ C W0 W p dk vars ns F cb nb gv gl gh q x X)(hd:W0.heap.size<=dk)(hk:zah (fun k=>k=dk) X X')(hw:∃L',zdE C X' dk vars ns L'):NQ C W0 W p dk vars ns F cb nb gv gl gh q x X' :=
 ⟨h.ns.kept hd hk hw,h.bx.keptB hk (by have:=h.q1;have:=h.ns.dq;omega),h.q1,h.qn⟩
theorem NQ.below{q:Nat}{x:Wy}(h:NQ C W0 W p dk vars ns F cb nb gv gl gh q x X)(hb:zB X X'):NQ C W0 W p dk vars ns F cb nb gv gl gh q x X':=⟨h.ns.below hb,h.bx.below hb h.bx.lt,h.q1,h.qn⟩
theorem NQ.put{q:Nat}{x:Wy}(h:NQ C W0 W p dk vars ns F cb nb gv gl gh q x X)(hW:W0.heap.size<=W.heap.size)(y:Wy):NQ C W0 W p dk vars ns F cb nb gv gl gh q y (((X.setCell ⟨q,0,none⟩ (.int .u64 y.items)).setCell ⟨q,1,none⟩ (.int .i64 y.cost)).setCell ⟨q,2,none⟩ (.bool y.can)) :=
 ⟨h.ns.put hW h.q1 h.qn _ _ _,zqj h.bx _ _ _,h.q1,h.qn⟩
def zyc(C:zej)(W0 W:World)(p dk vars:Nat)(ns:List Nd)(F:FuncId)(cb:Array Value)(nb:Nat)(gv gl gh:Int)(x:Wy)(qv:Value)(X:World):Prop:=∃q,qv=.pointer (some ⟨q,0,none⟩)/\NQ C W0 W p dk vars ns F cb nb gv gl gh q x X
theorem zkg(cx:zvn W0 B p s b O vars room st F cb C dk){d:Nat}(hF:zoO W0 p vars st.1 F cb C dk d)(h:Int)(L:List (Int × Wy))(W:World)(hW:zB W0 W)(hM:zdE C W dk vars st.1 L)(hh:zaP st.1 h=true)(ht:zaa st.1 h≠24)(hd:24<=zaa st.1 h+((d+1:Nat):Int))(hnin:h∉L.map Prod.fst) :
  zC 298 #[wkV p F cb dk,.int .i64 h] W (zlG C dk vars st.1 (zbB C vars st.1 h) W):=by
 have hi64:=zbg hh (by have:=cx.len;omega);have hbA:zB W ((W.alloc (.cells #[.pointer (some ⟨p,0,none⟩),.func (.func F) #[] cb,.map (some dk)] 357)).alloc (.cells #[.int .u64 0,.int .i64 0,.bool false] 279)):=((Below.refl _ W).alloc zN _).alloc (by simp only[World.size_alloc];omega) _;have hsolA:=cx.sol.new (zT hW hbA);have k0:=(Blk.new W 357 #[.pointer (some ⟨p,0,none⟩),.func (.func F) #[] cb,.map (some dk)]).alloc (.cells #[.int .u64 0,.int .i64 0,.bool false] 279);have HG:=zH (zlr hsolA.space h hi64 (by have:=cx.len;omega));have HHD:Hid (∀w1,Below ((W.alloc (.cells #[.pointer (some ⟨p,0,none⟩),.func (.func F) #[] cb,.map (some dk)] 357)).alloc (.cells #[.int .u64 0,.int .i64 0,.bool false] 279)).heap.size ((W.alloc (.cells #[.pointer (some ⟨p,0,none⟩),.func (.func F) #[] cb,.map (some dk)] 357)).alloc (.cells #[.int .u64 0,.int .i64 0,.bool false] 279)) w1->NS C W0 W p dk vars st.1 F cb w1.heap.size (zas st.1 h).v (zas st.1 h).l (zas st.1 h).h (w1.alloc (.cells #[.int .i64 (zas st.1 h).v,.int .i64 (zas st.1 h).l,.int .i64 (zas st.1 h).h] 176))):=fun w1 hb1=>zfh hW hM hb1;have c0:=k0.cell 0;have c1:((W.alloc (.cells #[.pointer (some ⟨p,0,none⟩),.func (.func F) #[] cb,.map (some dk)] 357)).alloc (.cells #[.int .u64 0,.int .i64 0,.bool false] 279)).cell? ⟨p,0,none⟩=some (.pointer (some ⟨s,0,none⟩)):=hsolA.blk.cell 0;have c2:((W.alloc (.cells #[.pointer (some ⟨p,0,none⟩),.func (.func F) #[] cb,.map (some dk)] 357)).alloc (.cells #[.int .u64 0,.int .i64 0,.bool false] 279)).cell? ⟨s,0,none⟩=some (.pointer (some ⟨b,0,none⟩)):=hsolA.space.c0;have hdkl:=cx.dkl;have hdW:=hM.lt;have hW0:=hW.size;have hv24:=cx.v24;unfold Nd.val at HG;rw[decide_eq_true ht] at HG;have hr:=cx.good.ranked;have hgn:=zfA ht;obtain⟨t1,t2,t3,t4⟩:=zlS hr ht;have tv:=(zbq ht).2.2.1;have htl:=zhv hr ht;have ht0:=(zam hr h).1;have htv:=zd0 cx.good ht;have hRB:=zlC (C:=C) cx.good ht;rw[<-hgn] at t1 t2 t3 t4 tv hRB;obtain⟨v,hv⟩:∃v:Nat,zaa st.1 h=(v:Int):=⟨(zaa st.1 h).toNat,by omega⟩;rw[hv] at t1 t3 tv hRB hd htl htv;rw[Int.toNat_natCast] at hRB;have HPUT:Hid (∀X,(∃L',zdE C X dk vars st.1 L')->∃w' L',(Instr.mapUpdate 355 (.map (some dk)) (.int .i64 h) (zbB C vars st.1 h).val).run Tryz.prog X=.ok () w'/\zdE C w' dk vars st.1 L'/\zah (fun j=>j=dk) X w'):=fun X ⟨L',hL⟩=>zuq hL hi64 ht cx.len;have HLK:Hid (∀X,zah (fun _=>False) W X->(Instr.lookup 355 (.map (some dk)) (.int .i64 h) true).run Tryz.prog X=.ok (.tuple #[Wy.val ⟨0,0,false⟩,.bool false]) X):=fun X hk=>by
  obtain⟨D,hD,hRp⟩:=(hM.kept hk (fun h=>h)).hmap;exact zn4 hD hRp hi64 hnin
 have oA:=zik (ns:=st.1) cx.cok hv24 (zas st.1 h).l (v+1);have oB:=zik (ns:=st.1) cx.cok hv24 (zas st.1 h).h (v+1);have hp24:2^vars<=2^24:=Nat.pow_le_pow_right (by omega) hv24;have HF1:Hid (∀X,zB W0 X->(∃L',zdE C X dk vars st.1 L')->zC 237 #[wkV p F cb dk,.int .i64 ((v:Int)+1),.int .i64 (zas st.1 h).l] X fun e w'=>e=.returned (zbi C vars st.1 (zas st.1 h).l (v+1)).val/\∃L',zdE C w' dk vars st.1 L'/\zah (fun k=>k=dk) X w'):=fun X h1 ⟨L',h2⟩=>hF (zas st.1 h).l (v+1) L' X h1 h2 t2 (by omega) (by omega) (by omega);have HF2:Hid (∀X,zB W0 X->(∃L',zdE C X dk vars st.1 L')->zC 237 #[wkV p F cb dk,.int .i64 ((v:Int)+1),.int .i64 (zas st.1 h).h] X fun e w'=>e=.returned (zbi C vars st.1 (zas st.1 h).h (v+1)).val/\∃L',zdE C w' dk vars st.1 L'/\zah (fun k=>k=dk) X w'):=fun X h1 ⟨L',h2⟩=>hF (zas st.1 h).h (v+1) L' X h1 h2 t4 (by omega) (by omega) (by omega);have HBT:Hid (∀X,zB W0 X->zC 299 #[wkV p F cb dk,.int .i64 v,(zbi C vars st.1 (zas st.1 h).l (v+1)).val,(zbi C vars st.1 (zas st.1 h).h (v+1)).val] X fun e w'=>e=.returned (zbB C vars st.1 h).val/\zB X w'):=fun X hX=>by
  rw[hRB];exact zlO F cb C vars hv24 cx.ent cx.cok cx.cat hX p dk v (by omega) _ _ ⟨oA.1,oA.2.1⟩ ⟨oB.1,oB.2.1⟩ (Nat.lt_of_lt_of_le (oB.2.2 (by omega)) hp24)
 generalize zbi C vars st.1 (zas st.1 h).l (v+1)=RA at *;generalize zbi C vars st.1 (zas st.1 h).h (v+1)=RB at *;generalize zas st.1 h=gt at *;obtain⟨gv,gl,gh⟩:=gt;simp only at *;subst tv;obtain⟨R,hR⟩:∃R,zbB C vars st.1 h=R:=⟨_,rfl⟩;rw[hR] at HPUT HBT ⊢;clear hM hsolA hR hRB t1 t2 t3 t4 hgn oA oB hF htl hr hv hd cx;unfold wkV at *;go_enter Tryz.func298,Tryz.ntmps298;go_upto_region 1 with fail;generalize (W.alloc (.cells #[.pointer (some ⟨p,0,none⟩),.func (.func F) #[] cb,.map (some dk)] 357)).alloc (.cells #[.int .u64 0,.int .i64 0,.bool false] 279)=WA at *;go_wp2_with fail;refine HG.out.mono ?_;rintro e w1 ⟨rfl,hb1⟩;have hns:=HHD.out w1 hb1;have hk1:zah (fun _=>False) W (w1.alloc (.cells #[.int .i64 v,.int .i64 gl,.int .i64 gh] 176)):=zah.of_below ((zT hbA hb1).alloc (Nat.le_trans hbA.size hb1.size) _) _;have hlk:=HLK.out _ hk1;unfold Wy.val at hlk;have a2:=hns.w0.cell 2;go_upto_region 2 with fail;generalize w1.alloc (.cells #[.int .i64 v,.int .i64 gl,.int .i64 gh] 176)=W2 at *;have hn3:=hns.below (Go.Proofs.YtiihalknffbjpaaGreatDoor.below_new W2 (.cells #[.int .u64 ((0:Nat):Int),.int .i64 0,.bool false] 279));clear hns hb1 HG HHD HLK c0 c1 c2 hbA k0 hk1;go_upto_region 7 with fail;unfold Wy.val at HF1 HF2 HBT HPUT;have hn4:NS C W0 W p dk vars st.1 F cb w1.heap.size v gl gh (W2.alloc (.cells #[.int .u64 0,.int .i64 0,.bool false] 279)):=hn3;generalize W2.alloc (.cells #[.int .u64 0,.int .i64 0,.bool false] 279)=W3 at *;have N0:=hn4.below (Below.refl _ W3).drew;have G0:=(hn4.box0).below zF.drew;have s0:=N0.sc;have t0:=G0.ns.sc;have hv0:(0:Int)<=v:=by omega
 have hv23:(v:Int)+1<=24:=by omega
 clear hn3 hn4 hlk a2;generalize w1.heap.size=nb at *;have hwp:IntKind.i64.wrap ((v:Int)+1)=(v:Int)+1:=by rw[IntKind.wrap_i64];omega
 rw[<-hwp] at HF1 HF2;clear hwp;go_cut [9] (fun qv wx=>zyc C W0 W p dk vars st.1 F cb nb v gl gh R qv wx)
 case rest =>obtain⟨q,rfl,hE⟩:=hcut;clear N0 G0 s0 t0 HF1 HF2 HBT;obtain⟨w8,L8,hrun,hL8,hk8⟩:=HPUT.out _ hE.ns.way;have hE8:=hE.kept hdkl hk8 ⟨L8,hL8⟩;have a2:=hE.ns.w0.cell 2;have e0:=hE.bx.cell 0;have e1:=hE.bx.cell 1;have e2:=hE.bx.cell 2;have f0:=hE8.bx.cell 0;have f1:=hE8.bx.cell 1;have f2:=hE8.bx.cell 2;have z0:=hE8.ns.w1.cell 0;have z1:=hE8.ns.w1.cell 1;have z2:=hE8.ns.w1.cell 2;have y0:=hE8.ns.w1.frozen 0;have y1:=hE8.ns.w1.frozen 1;have y2:=hE8.ns.w1.frozen 2;have hres:=zqj hE8.ns.w1 (.int .u64 R.items) (.int .i64 R.cost) (.bool R.can);have r0:=hres.cell 0;have r1:=hres.cell 1;have r2:=hres.cell 2;have HFIN:=zH (zli R hdW hE8.ns.way hE8.ns.kep);clear hres hE hE8 hL8 hk8 HPUT;go_wp2;refine bodyPost_ret (v:=.agg #[.int .u64 R.items,.int .i64 R.cost,.bool R.can]) (by simp[results,Tryz.f298,go_sem,r0,r1,r2]) rfl ?_;exact⟨rfl,HFIN.out⟩
 go_region_held3 (fun X=>X.cell? ⟨W.heap.size,0,none⟩=some (.pointer (some ⟨p,0,none⟩))/\X.cell? ⟨W.heap.size,1,none⟩=some (.func (.func F) #[] cb)/\X.cell? ⟨W.heap.size,2,none⟩=some (.map (some dk))/\X.cell? ⟨nb,0,none⟩=some (.int .i64 v)/\X.cell? ⟨nb,1,none⟩=some (.int .i64 gl)/\X.cell? ⟨nb,2,none⟩=some (.int .i64 gh)) (first|with_reducible exact s0|with_reducible exact t0|with_reducible exact s1|with_reducible exact t1|with_reducible exact u1|with_reducible exact s2|with_reducible exact t2|with_reducible exact u2|with_reducible exact s3|with_reducible exact t3|with_reducible exact u3|with_reducible exact x3)
  (first
   |(go_at_call 237;with_reducible refine(HF1.out _ N0.bel N0.way).mono ?_;rintro e w4 ⟨rfl,L4,hM4,hk4⟩;have N1:=N0.kept hdkl hk4 ⟨L4,hM4⟩;have G1:=N1.box0;have s1:=N1.sc;have t1:=G1.ns.sc;clear hM4 hk4 N0 G0 s0 t0 HF1)
   |(go_at_call 237;with_reducible refine(HF1.out _ G0.ns.bel G0.ns.way).mono ?_;rintro e w4 ⟨rfl,L4,hM4,hk4⟩;have U1:=G0.kept hdkl hk4 ⟨L4,hM4⟩;have u1:=U1.ns.sc;clear hM4 hk4 N0 G0 s0 t0 HF1)
   |(go_at_call 237;with_reducible refine(HF2.out _ N1.bel N1.way).mono ?_;rintro e w5 ⟨rfl,L5,hM5,hk5⟩;have N2:=N1.kept hdkl hk5 ⟨L5,hM5⟩;have G2:=N2.box0;have s2:=N2.sc;have t2:=G2.ns.sc;clear hM5 hk5 N1 G1 s1 t1 HF2)
   |(go_at_call 237;with_reducible refine(HF2.out _ G1.ns.bel G1.ns.way).mono ?_;rintro e w5 ⟨rfl,L5,hM5,hk5⟩;have U2:=G1.kept hdkl hk5 ⟨L5,hM5⟩;have u2:=U2.ns.sc;clear hM5 hk5 N1 G1 s1 t1 HF2)
   |(go_at_call 237;with_reducible refine(HF2.out _ U1.ns.bel U1.ns.way).mono ?_;rintro e w5 ⟨rfl,L5,hM5,hk5⟩;have U2:=U1.kept hdkl hk5 ⟨L5,hM5⟩;have u2:=U2.ns.sc;clear hM5 hk5 U1 u1 HF2)
   |(go_at_call 299;with_reducible refine(HBT.out _ N2.bel).mono ?_;rintro e w6 ⟨rfl,hb6⟩;have N3':=N2.below hb6;have N3:=N3'.box0;have s3:=N3'.sc;have t3:=N3.ns.sc;have z0:=N3.bx.cell 0;have z1:=N3.bx.cell 1;have z2:=N3.bx.cell 2;have y0:=N3.bx.frozen 0;have y1:=N3.bx.frozen 1;have y2:=N3.bx.frozen 2;have NE:=N3'.box R;have x3:=NE.ns.sc;have HE:=zH NE;clear hb6 N3 N3' NE N2 G2 s2 t2 HBT)
   |(go_at_call 299;with_reducible refine(HBT.out _ G2.ns.bel).mono ?_;rintro e w6 ⟨rfl,hb6⟩;have N3:=G2.below hb6;have s3:=N3.ns.sc;have t3:=(N3.put hW0 R).ns.sc;have z0:=N3.bx.cell 0;have z1:=N3.bx.cell 1;have z2:=N3.bx.cell 2;have y0:=N3.bx.frozen 0;have y1:=N3.bx.frozen 1;have y2:=N3.bx.frozen 2;have HE:=zH (N3.put hW0 R);clear hb6 N3 N2 G2 s2 t2 HBT)
   | (go_at_call 299;with_reducible refine (HBT.out _ U2.ns.bel).mono ?_;rintro e w6 ⟨rfl,hb6⟩;have N3:=U2.below hb6;have s3:=N3.ns.sc;have t3:=(N3.put hW0 R).ns.sc;have z0:=N3.bx.cell 0;have z1:=N3.bx.cell 1;have z2:=N3.bx.cell 2;have y0:=N3.bx.frozen 0;have y1:=N3.bx.frozen 1;have y2:=N3.bx.frozen 2;have HE:=zH (N3.put hW0 R);clear hb6 N3 U2 u2 HBT))
 all_goals
  have hE:=HE.out;clear HE
  try clear z0 z1 z2
  try clear y0 y1 y2
  try clear s3 t3
  try clear x3
  go_wp2_with fail;go_meet
  case rel=>exact⟨_,rfl,hE⟩
end
end Bd
namespace Bd
open Go.RowKit Go.Maps Go.Deep
section
variable {W0:World} {B p s b:Nat} {O:Nat->Prop} {vars:Nat} {room:Int} {st:List Nd × Int} {F:FuncId} {cb:Array Value} {C:zej} {dk:Nat}
theorem znm(cx:zvn W0 B p s b O vars room st F cb C dk):∀d,zlY W0 p vars st.1 F cb C dk d:=by
 intro d
 induction d with
 |zero=>exact fun h L W hW hM hh hd=>zhn cx h L W hW hM hh (by have:=(zam cx.good.ranked h).2;omega)
 |succ d ih =>
  intro h L W hW hM hh hd
  by_cases ht:zaa st.1 h=24
  ·exact zhn cx h L W hW hM hh ht
  ·by_cases hin:h∈L.map Prod.fst
   ·obtain⟨q,hq,rfl⟩:=List.mem_map.1 hin;exact zj3 cx q.1 L W hW hM hh ht q.2 hq
   ·exact zkg cx (zjG cx ih) h L W hW hM hh ht hd hin
theorem zo4(cx:zvn W0 B p s b O vars room st F cb C dk)(h:Int)(v:Nat)(L:List (Int × Wy))(W:World)(hW:zB W0 W)(hM:zdE C W dk vars st.1 L)(hh:zaP st.1 h=true)(hv:(v:Int)<=zaa st.1 h)(hvv:v<=vars):zC 237 #[wkV p F cb dk,.int .i64 v,.int .i64 h] W (zlG C dk vars st.1 (zbi C vars st.1 h v) W) :=
 zjG cx (znm cx 24) h v L W hW hM hh hv hvv (by have:=(zam cx.good.ranked h).1;omega)
theorem zn8{w:World}(hsol:zfD B w p s b O vars room st)(hg:zcq vars st.1)(hl:st.1.length<=90000)(h24:vars<=24)(hent:∀args w,(callFunc F args).run Tryz.prog w=.ok (.enter F args) w)(hcok:zgr C)(hcat:zmS w F cb C vars)(hh:zaP st.1 st.2=true) :
  zC 171 #[.pointer (some ⟨p,0,none⟩),.func (.func F) #[] cb] w fun e w'=>e=.returned (zbi C vars st.1 st.2 0).val/\zB w w':=by
 have s1:(w.alloc (.cells #[.int .u64 0,.int .i64 0,.bool false] 279)).heap.size=w.heap.size+1:=by simp
 have s2:((w.alloc (.cells #[.int .u64 0,.int .i64 0,.bool false] 279)).alloc (.map #[] 0)).heap.size=w.heap.size+1+1:=by rw[World.size_alloc,s1]
 have hb1:=Go.Proofs.YtiihalknffbjpaaGreatDoor.below_new w (.cells #[.int .u64 0,.int .i64 0,.bool false] 279);have hb2:=hb1.alloc hb1.size (.map #[] 0);have hb3:=hb2.alloc hb2.size (.cells #[.pointer (some ⟨p,0,none⟩),.func (.func F) #[] cb,.map (some (w.heap.size+1))] 357);have hown:=World.ownsMap_made (w.alloc (.cells #[.int .u64 0,.int .i64 0,.bool false] 279)) Tryz.prog 3 zrv;rw[s1] at hown;have hM0:zdE C ((w.alloc (.cells #[.int .u64 0,.int .i64 0,.bool false] 279)).alloc (.map #[] 0)) (w.heap.size+1) vars st.1 []:=⟨⟨_,hown,Rep.empty⟩,(fun p hp=>by cases hp),(fun p hp=>by cases hp),by simp⟩;have hM:=(hM0.new (Go.Proofs.YtiihalknffbjpaaGreatDoor.below_new _ (.cells #[.pointer (some ⟨p,0,none⟩),.func (.func F) #[] cb,.map (some (w.heap.size+1))] 357))).new zF.drew;have cx:zvn w B p s b O vars room st F cb C (w.heap.size+1):=⟨hsol,hg,hl,h24,hent,hcok,hcat,by omega⟩;have HFR:Hid (zC 237 #[.agg #[.pointer (some ⟨p,0,none⟩),.func (.func F) #[] cb,.map (some (w.heap.size+1))],.int .i64 0,.int .i64 st.2] (((w.alloc (.cells #[.int .u64 0,.int .i64 0,.bool false] 279)).alloc (.map #[] 0)).alloc (.cells #[.pointer (some ⟨p,0,none⟩),.func (.func F) #[] cb,.map (some (w.heap.size+1))] 357)).drew fun e w'=>e=.returned (zbi C vars st.1 st.2 0).val/\∃L',zdE C w' (w.heap.size+1) vars st.1 L'/\zah (fun k=>k=w.heap.size+1) (((w.alloc (.cells #[.int .u64 0,.int .i64 0,.bool false] 279)).alloc (.map #[] 0)).alloc (.cells #[.pointer (some ⟨p,0,none⟩),.func (.func F) #[] cb,.map (some (w.heap.size+1))] 357)).drew w'):=zo4 cx st.2 0 [] _ hb3.drew hM hh (zam hg.ranked st.2).1 (Nat.zero_le _);have k0:=((Blk.new w 279 #[.int .u64 0,.int .i64 0,.bool false]).alloc (.map #[] 0)).alloc (.cells #[.pointer (some ⟨p,0,none⟩),.func (.func F) #[] cb,.map (some (w.heap.size+1))] 357);have k0d:Blk (((w.alloc (.cells #[.int .u64 0,.int .i64 0,.bool false] 279)).alloc (.map #[] 0)).alloc (.cells #[.pointer (some ⟨p,0,none⟩),.func (.func F) #[] cb,.map (some (w.heap.size+1))] 357)).drew w.heap.size 279 #[.int .u64 0,.int .i64 0,.bool false]:=k0.below zF.drew k0.lt;have k1:=Blk.new ((w.alloc (.cells #[.int .u64 0,.int .i64 0,.bool false] 279)).alloc (.map #[] 0)) 357 #[.pointer (some ⟨p,0,none⟩),.func (.func F) #[] cb,.map (some (w.heap.size+1))];rw[s2] at k1;have cp:=(hsol.new hb3).blk.cell 1;have HK1:=zH (k1.below zF.drew k1.lt);have HKP:=zH ((hsol.new hb3).new zF.drew).blk;have hplt:=hsol.blk.lt;have a0:=k1.cell 0;have a1:=k1.cell 1;have a2:=k1.cell 2;have hmm:=@run_makeMap Tryz.prog;have hst:(store ⟨w.heap.size+1+1,1,none⟩ (Value.func (Fn.func F) #[] cb)).run Tryz.prog (((w.alloc (.cells #[.int .u64 0,.int .i64 0,.bool false] 279)).alloc (.map #[] 0)).alloc (.cells #[.pointer (some ⟨p,0,none⟩),.nilFunc,.map none] 357))=.ok () (((w.alloc (.cells #[.int .u64 0,.int .i64 0,.bool false] 279)).alloc (.map #[] 0)).alloc (.cells #[.pointer (some ⟨p,0,none⟩),.func (.func F) #[] cb,.map none] 357)):=by
  have kz:=Blk.new ((w.alloc (.cells #[.int .u64 0,.int .i64 0,.bool false] 279)).alloc (.map #[] 0)) 357 #[.pointer (some ⟨p,0,none⟩),.nilFunc,.map none];rw[s2] at kz;have c1:(((w.alloc (.cells #[.int .u64 0,.int .i64 0,.bool false] 279)).alloc (.map #[] 0)).alloc (.cells #[.pointer (some ⟨p,0,none⟩),.nilFunc,.map none] 357)).cell? ⟨w.heap.size+1+1,1,none⟩=some .nilFunc:=kz.cell 1;rw[run_store _ _ _ _ _ (by rfl),c1,kz.frozen 1];exact congrArg (fun X=>Result.ok () X) (World.setCell_alloc_at _ _ _ _ _ s2.symm)
 have HB3:=zH hb3;have HK0:=zH k0d;clear hM hM0 hown cx hb1 hb2 hb3 k0 k0d k1 hsol hg hcat hent hcok;generalize zbi C vars st.1 st.2 0=R at *;go_enter Tryz.func171,Tryz.ntmps171;go_upto_region 2 with fail;generalize ((w.alloc (.cells #[.int .u64 0,.int .i64 0,.bool false] 279)).alloc (.map #[] 0)).alloc (.cells #[.pointer (some ⟨p,0,none⟩),.func (.func F) #[] cb,.map (some (w.heap.size+1))] 357)=WA at *;have S0:WA.drew.cell? ⟨w.heap.size+1+1,0,none⟩=some (.pointer (some ⟨p,0,none⟩))/\WA.drew.cell? ⟨w.heap.size+1+1,1,none⟩=some (.func (.func F) #[] cb)/\WA.drew.cell? ⟨w.heap.size+1+1,2,none⟩=some (.map (some (w.heap.size+1)))/\WA.drew.cell? ⟨p,1,none⟩=some (.int .i64 st.2):=⟨a0,a1,a2,cp⟩;have SK:Hid (∀X,zah (fun k=>k=w.heap.size+1\/k=w.heap.size) WA.drew X->X.cell? ⟨w.heap.size+1+1,0,none⟩=some (.pointer (some ⟨p,0,none⟩))/\X.cell? ⟨w.heap.size+1+1,1,none⟩=some (.func (.func F) #[] cb)/\X.cell? ⟨w.heap.size+1+1,2,none⟩=some (.map (some (w.heap.size+1)))/\X.cell? ⟨p,1,none⟩=some (.int .i64 st.2)):=fun X hk=>by
  have k3:=HK1.out.keptB hk (by omega);have k4:=HKP.out.keptB hk (by omega);exact⟨k3.cell 0,k3.cell 1,k3.cell 2,k4.cell 1⟩
 have SKS:Hid (∀X,zah (fun k=>k=w.heap.size+1) WA.drew X->zah (fun k=>k=w.heap.size+1\/k=w.heap.size) WA.drew (((X.setCell ⟨w.heap.size,0,none⟩ (.int .u64 R.items)).setCell ⟨w.heap.size,1,none⟩ (.int .i64 R.cost)).setCell ⟨w.heap.size,2,none⟩ (.bool R.can))):=fun X hk =>
  ((((zah.refl (fun k=>k=w.heap.size+1\/k=w.heap.size) WA.drew).andThen hk (fun _ h _=>Or.inl h)).andThen (zah.setCell (S:=fun k=>k=w.heap.size) X ⟨w.heap.size,0,none⟩ _ rfl) (fun _ h _=>Or.inr h)).andThen (zah.setCell (S:=fun k=>k=w.heap.size) _ ⟨w.heap.size,1,none⟩ _ rfl) (fun _ h _=>Or.inr h)).andThen (zah.setCell (S:=fun k=>k=w.heap.size) _ ⟨w.heap.size,2,none⟩ _ rfl) (fun _ h _=>Or.inr h)
 have SKW:Hid (∀X,zah (fun k=>k=w.heap.size+1) WA.drew X->X.cell? ⟨w.heap.size+1+1,0,none⟩=some (.pointer (some ⟨p,0,none⟩))/\X.cell? ⟨w.heap.size+1+1,1,none⟩=some (.func (.func F) #[] cb)/\X.cell? ⟨w.heap.size+1+1,2,none⟩=some (.map (some (w.heap.size+1)))/\X.cell? ⟨p,1,none⟩=some (.int .i64 st.2)):=fun X hk=>by
  have k3:=HK1.out.keptB hk (by omega);have k4:=HKP.out.keptB hk (by omega);exact⟨k3.cell 0,k3.cell 1,k3.cell 2,k4.cell 1⟩
 clear a0 a1 a2 cp;go_region_held3 (fun X=>X.cell? ⟨w.heap.size+1+1,0,none⟩=some (.pointer (some ⟨p,0,none⟩))/\X.cell? ⟨w.heap.size+1+1,1,none⟩=some (.func (.func F) #[] cb)/\X.cell? ⟨w.heap.size+1+1,2,none⟩=some (.map (some (w.heap.size+1)))/\X.cell? ⟨p,1,none⟩=some (.int .i64 st.2)) (first|with_reducible exact S0|with_reducible exact S1|with_reducible exact S2)
  (first
   | (go_at_call 237;with_reducible refine HFR.out.mono ?_;rintro e w2 ⟨rfl,L2,hM2,hk2⟩;have k2:=HK0.out.keptB hk2 (by omega);have S1:=SKW.out _ hk2;have S2:=SK.out _ (SKS.out _ hk2);have z0:=k2.cell 0;have z1:=k2.cell 1;have z2:=k2.cell 2;have y0:=k2.frozen 0;have y1:=k2.frozen 1;have y2:=k2.frozen 2;unfold Wy.val))
 all_goals
  have hres:=zqj k2 (.int .u64 R.items) (.int .i64 R.cost) (.bool R.can);have r0:=hres.cell 0;have r1:=hres.cell 1;have r2:=hres.cell 2;have HFIN:Hid (zB w (((w2.setCell ⟨w.heap.size,0,none⟩ (.int .u64 R.items)).setCell ⟨w.heap.size,1,none⟩ (.int .i64 R.cost)).setCell ⟨w.heap.size,2,none⟩ (.bool R.can))) :=
   (((HB3.out.drew.trans (hk2.below HB3.out.size (fun j e=>by omega))).setCell (p:=⟨w.heap.size,0,none⟩) zN _).setCell (p:=⟨w.heap.size,1,none⟩) zN _).setCell (p:=⟨w.heap.size,2,none⟩) zN _
  clear hres k2 z0 z1 z2 y0 y1 y2 hM2 hk2;go_wp2;refine bodyPost_ret (v:=.agg #[.int .u64 R.items,.int .i64 R.cost,.bool R.can]) (by simp[results,Tryz.f171,go_sem,r0,r1,r2]) rfl ?_;exact⟨rfl,HFIN.out⟩
end
end Bd
namespace Bd
open Go.RowKit Go.Maps Go.Deep
def zrr(b:Bool):Int:=if b then 1 else 0
theorem zwB(x:Bool)(w:World):zC 86 #[.bool x] w fun e w'=>e=.returned (.int .i64 (zrr x))/\w=w':=by
 cases x
 ·go_enter Tryz.func86,Tryz.ntmps86;go_wp2;go_ret;exact⟨rfl,rfl⟩
 ·go_enter Tryz.func86,Tryz.ntmps86;go_wp2;go_ret;exact⟨rfl,rfl⟩
section
variable {B p s b:Nat} {O:Nat->Prop} {vars:Nat} {room:Int} {st:List Nd × Int} {F:FuncId} {cb:Array Value} {C:zej} {w:World}
theorem zvr(hsol:zfD B w p s b O vars room st)(hl:st.1.length<=90000)(hh:zaP st.1 st.2=true):zR 88 #[.pointer (some ⟨p,0,none⟩)] w .nilIface:=by
 have HAQ:Hid (∀n,zC 156 #[.pointer (some ⟨s,0,none⟩)] (w.drewN n) fun e w'=>e=.returned (.bool false)/\w'=w.drewN n):=fun n=>(zmq (hsol.space.new (zat _ w n))).mono fun e w' ⟨h1,h2⟩=>⟨h1,h2.symm⟩;have HHQ:Hid (∀n,zC 163 #[.pointer (some ⟨b,0,none⟩),.int .i64 st.2] (w.drewN n) fun e w'=>e=.returned (.bool true)/\w'=w.drewN n):=fun n=>(zwU (hsol.space.new (zat _ w n)) st.2 (zbg hh (by omega)) hl).mono fun e w' ⟨h1,h2⟩=>⟨by rw[h1,hh],h2.symm⟩;have c0:_=some (Value.pointer (some ⟨s,0,none⟩)):=hsol.blk.cell 0;have c1:_=some (Value.int .i64 st.2):=hsol.blk.cell 1;have c2:w.cell? ⟨s,0,none⟩=some (.pointer (some ⟨b,0,none⟩)):=hsol.space.c0;clear hsol;go_enter Tryz.func88,Tryz.ntmps88;go_wp2_with fail;go_quiet (first|(go_at_call 156;refine Calls.quiet_of_same (HAQ.out _))|(go_at_call 163;refine Calls.quiet_of_same (HHQ.out _)));go_wp2;go_ret;exact⟨rfl,zat _ w _⟩
def zh2(item:Nat)(is:Bool):zej:=fun i b=>zrr (decide (i=item)&&(b==is))
theorem zul(item:Nat)(is:Bool):zgr (zh2 item is):=by
 intro i b;unfold zh2 zrr;split<;>omega
theorem zn9(item i:Nat)(is bb:Bool)(a c:Nat)(w:World)(ha:w.cell? ⟨a,0,none⟩=some (.int .i64 item))(hc:w.cell? ⟨c,0,none⟩=some (.bool is)) :
  zR 172 #[.int .i64 i,.bool bb,.pointer (some ⟨a,0,none⟩),.pointer (some ⟨c,0,none⟩)] w (.int .i64 (zh2 item is i bb)):=by
 by_cases h:i=item
 ·subst h;have HO:=zH (zwB (bb==is) w);have hR:zh2 i is i bb=zrr (bb==is):=by unfold zh2;simp
  rw[hR];go_enter Tryz.func172,Tryz.ntmps172;go_wp2_with fail;refine HO.out.mono ?_;rintro e w1 ⟨rfl,rfl⟩;go_wp2;go_ret;exact⟨rfl,Below.refl _ _⟩
 ·have HO:=zH (zwB false w);have hR:zh2 item is i bb=zrr false:=by unfold zh2;simp[h]
  have hne:¬(i:Int)=(item:Int):=by omega
  rw[hR];clear h;go_enter Tryz.func172,Tryz.ntmps172;go_wp2_with fail;refine HO.out.mono ?_;rintro e w1 ⟨rfl,rfl⟩;go_wp2;go_ret;exact⟨rfl,Below.refl _ _⟩
theorem zkj:∀args w,(callFunc 172 args).run Tryz.prog w=.ok (.enter 172 args) w:=by intro args w;kernel_rfl
theorem zkc(k:Nat)(is:Bool)(vars:Nat){a c:Nat}{W0:World}(ha:a<W0.heap.size)(hc:c<W0.heap.size)(ca:W0.cell? ⟨a,0,none⟩=some (.int .i64 k))(cc:W0.cell? ⟨c,0,none⟩=some (.bool is)):zmS W0 172 #[.pointer (some ⟨a,0,none⟩),.pointer (some ⟨c,0,none⟩)] (zh2 k is) vars:=fun W j bb hW _ =>
 zn9 k j is bb a c W ((hW.cell (p:=⟨a,0,none⟩) ha).trans ca) ((hW.cell (p:=⟨c,0,none⟩) hc).trans cc)
def zqM(vars:Nat)(ns:List Nd)(h:Int)(is:Bool)(i:Nat):Bool:=!(zbi (zh2 i is) vars ns h 0).can||decide (0<(zbi (zh2 i is) vars ns h 0).cost)
def zee(vars:Nat)(ns:List Nd)(h:Int)(is:Bool)(k:Nat):List Int:=((List.range k).filter (zqM vars ns h is)).map (fun i:Nat=>(i:Int))
theorem zg7(vars:Nat)(ns:List Nd)(h:Int)(is:Bool)(k:Nat):zee vars ns h is (k+1)=zee vars ns h is k++(if zqM vars ns h is k then [(k:Int)] else []):=by
 unfold zee;rw[List.range_succ,List.filter_append,List.map_append];congr 1
 by_cases hb:zqM vars ns h is k=true
 ·rw[if_pos hb,List.filter_cons_of_pos hb];rfl
 ·rw[if_neg hb,List.filter_cons_of_neg hb];rfl
theorem zh9(vars:Nat)(ns:List Nd)(h:Int)(is:Bool)(k:Nat):(zee vars ns h is k).length<=k:=by
 unfold zee;rw[List.length_map];exact Nat.le_trans (List.length_filter_le _ _) (by rw[List.length_range];exact Nat.le_refl _)
theorem zj0(hsol:zfD B w p s b O vars room st)(hg:zcq vars st.1)(hl:st.1.length<=90000)(h24:vars<=24)(hh:zaP st.1 st.2=true)(is:Bool) :
  zC 83 #[.pointer (some ⟨p,0,none⟩),.bool is] w fun e w'=>∃v,e=.returned (.tuple #[v,.nilIface])/\w'.ownsRow w.heap.size 3 1 v (zee vars st.1 st.2 is vars).length (Go.Proofs.YtiihalknffbjpaaGreatDoor.icells (zee vars st.1 st.2 is vars))/\zB w w':=by
 have hbA:=Go.Proofs.YtiihalknffbjpaaGreatDoor.below_new w (.cells #[.bool is] 4);have hci:(w.alloc (.cells #[.bool is] 4)).cell? ⟨w.heap.size,0,none⟩=some (.bool is):=by simp
 have HWH:=zH (zvr (hsol.new hbA) hl hh);have HSOL:=zH hsol;have HG:=zH hg;obtain⟨i0,hin,hz0,hz1,hz2⟩:=info_parts zcl;clear hsol hg;go_enter Tryz.func83,Tryz.ntmps83;go_wp2_with fail;refine HWH.out.mono ?_;rintro e w2 ⟨rfl,hb2⟩;have hb3:zB w w2:=zT hbA hb2;have hs1:(w.alloc (.cells #[.bool is] 4)).heap.size=w.heap.size+1:=by simp
 rw[hs1] at hb2;have hci2:=hci;have HV:=zH (zgk (HSOL.out.new hb3).space);have c0:w2.cell? ⟨p,0,none⟩=some (.pointer (some ⟨s,0,none⟩)):=(HSOL.out.new hb3).blk.cell 0;have HB3:=zH hb2;have HBA:=zH hbA;have HCI2:=zH hci2;clear hbA hb2 hci HWH hb3 hci2;generalize (w.alloc (.cells #[.bool is] 4))=W1 at *;go_wp2_with fail;refine HV.out.mono ?_;rintro e w3 ⟨rfl,rfl⟩;clear HV;have HST0:Hid (w2.ownsRow (w.heap.size+1) 3 1 (.slice none 0 0) (zee vars st.1 st.2 is 0).length (Go.Proofs.YtiihalknffbjpaaGreatDoor.icells (zee vars st.1 st.2 is 0))):=by
  exact World.ownsRow_nil _ _ _ _
 go_wp2_with fail;go_loopw [7,20] (fun oV iV wr=>∃k:Nat,k<=vars/\iV=.int .i64 k/\wr.ownsRow (w.heap.size+1) 3 1 oV (zee vars st.1 st.2 is k).length (Go.Proofs.YtiihalknffbjpaaGreatDoor.icells (zee vars st.1 st.2 is k))/\Below (w.heap.size+1) W1 wr) (fun _ iV _=>vars-(intOf iV).toNat)
 case atStart=>exact⟨0,Nat.zero_le _,rfl,HST0.out,HB3.out⟩
 case round =>
  clear HST0 HB3 c0;obtain⟨k,hkl,rfl,hrow,hbr⟩:=hrel;have hci:wr.cell? ⟨w.heap.size,0,none⟩=some (.bool is):=(hbr.cell (p:=⟨w.heap.size,0,none⟩) (Nat.lt_succ_self _)).trans HCI2.out;have hbw:zB w wr:=HBA.out.trans (hbr.mono (Nat.le_succ _));obtain⟨n,hn⟩:∃n,(zee vars st.1 st.2 is k).length=n:=⟨_,rfl⟩;have hn24:n<=24:=by have:=zh9 vars st.1 st.2 is k;omega
  rw[hn] at hrow;have hbs:=hbr.size;rw[hs1] at hbs;obtain⟨qa,qc,rfl,-⟩:=row_form hrow;have HN:=zH hn
  by_cases hlt:k<vars
  ·have hbB:=Go.Proofs.YtiihalknffbjpaaGreatDoor.below_new wr (.cells #[.int .i64 k] 3);have hbW:zB w (wr.alloc (.cells #[.int .i64 k] 3)):=hbw.trans (hbB.mono (by omega));have hwl:w.heap.size<wr.heap.size:=by omega
   have HCH:=zH (zn8 (F:=172) (cb:=#[.pointer (some ⟨wr.heap.size,0,none⟩),.pointer (some ⟨w.heap.size,0,none⟩)]) (C:=zh2 k is) (HSOL.out.new hbW) HG.out hl h24 zkj (zul k is) (zkc k is vars (a:=wr.heap.size) (c:=w.heap.size) (by simp) (by simp;omega) (by simp) ((hbB.cell (p:=⟨w.heap.size,0,none⟩) hwl).trans hci)) hh);have HST:=zH (zg7 vars st.1 st.2 is k);unfold zqM at HST;have hk0:(k:Int)<(vars:Int):=by omega
   have HROW0:=zH hrow;have HBR0:=zH hbr;have HBB:=zH hbB;clear hrow hbr hbw hci hbB hbW hn;generalize zbi (zh2 k is) vars st.1 st.2 0=R at *;obtain⟨ri,rc,rb⟩:=R;simp only at HST;unfold Wy.val at HCH;go_wp2_with fail;refine HCH.out.mono ?_;rintro e w4 ⟨rfl,hb4⟩;have hb5:zB wr (w4.alloc (.cells #[.int .u64 ri,.int .i64 rc,.bool rb] 279)):=(zT HBB.out hb4).alloc (Nat.le_trans HBB.out.size hb4.size) _;have hk5:(w4.alloc (.cells #[.int .u64 ri,.int .i64 rc,.bool rb] 279)).cell? ⟨wr.heap.size,0,none⟩=some (.int .i64 k):=by
    have h1:w4.cell? ⟨wr.heap.size,0,none⟩=some (.int .i64 k):=(hb4.cell (p:=⟨wr.heap.size,0,none⟩) (by simp)).trans (by simp);exact((Go.Proofs.YtiihalknffbjpaaGreatDoor.below_new w4 _).cell (p:=⟨wr.heap.size,0,none⟩) (by have:=hb4.size;simp at this;show wr.heap.size<_;omega)).trans h1
   have kb:=Blk.new w4 279 #[.int .u64 ri,.int .i64 rc,.bool rb];have q1:=kb.cell 1;have q2:=kb.cell 2;have HROW:Hid ((w4.alloc (.cells #[.int .u64 ri,.int .i64 rc,.bool rb] 279)).ownsRow (w.heap.size+1) 3 1 (.slice qa n qc) n (Go.Proofs.YtiihalknffbjpaaGreatDoor.icells (zee vars st.1 st.2 is k))):=zaf HROW0.out hb5;have HBR:Hid (Below (w.heap.size+1) W1 (w4.alloc (.cells #[.int .u64 ri,.int .i64 rc,.bool rb] 279))):=HBR0.out.trans (hb5.mono (by omega));have hbs5:w.heap.size+1<=(w4.alloc (.cells #[.int .u64 ri,.int .i64 rc,.bool rb] 279)).heap.size:=by have:=HBR.out.size;omega
   clear kb hb4 hb5 HROW0 HBR0 HBB HCH;go_upto_region 9 with fail;generalize w4.alloc (.cells #[.int .u64 ri,.int .i64 rc,.bool rb] 279)=W5 at *;cases rb with
   |false =>
    rw[if_pos (by simp)] at HST;go_wp2_with (at_builtin;refine wpList_append_own_at _ rfl _ _ 47 rfl (w.heap.size+1) 3 i0 (.int .i64 0) 1 8 Tryz.underlying47 hin hz0 hz1 hz2 rfl (by decide) _ _ _ rfl (HROW.out.alloc _) ⟨W5.heap.size,0,none⟩ 1 1 [.int .i64 k] rfl rfl ?e1 ?e2 ?e3 ?e4 ?e5 ?_)
    case e1=>exact zaL _ _ _
    case e2=>exact za4 _
    case e3=>unfold maxLen;omega
    case e4=>omega
    case e5=>simp;omega
    intro v8 w8 hown8 hgrow8 _ hloc8;have HR8:Hid (w8.ownsRow (w.heap.size+1) 3 1 v8 (zee vars st.1 st.2 is (k+1)).length (Go.Proofs.YtiihalknffbjpaaGreatDoor.icells (zee vars st.1 st.2 is (k+1)))):=by
     show World.ownsRow _ _ _ _ _ _ _;rw[HST.out,zaD,List.length_append,HN.out];exact hown8
    have HB8:Hid (Below (w.heap.size+1) W1 w8):=(HBR.out.alloc hbs5 _).grown hgrow8 (by simp;omega) (fun k hk=>(HROW.out.lt k hk).1);obtain⟨v8a,v8c,rfl,-⟩:=row_form hown8;clear hown8 hgrow8 hloc8 HROW HST;go_wp2;go_roundw
    case rel=>exact⟨k+1,hlt,by go_num,HR8.out,HB8.out⟩
    case measure=>simp[intOf];omega
   |true =>
    by_cases h0:0<rc
    ·rw[if_pos (by simp[h0])] at HST;go_wp2_with (at_builtin;refine wpList_append_own_at _ rfl _ _ 47 rfl (w.heap.size+1) 3 i0 (.int .i64 0) 1 8 Tryz.underlying47 hin hz0 hz1 hz2 rfl (by decide) _ _ _ rfl (HROW.out.alloc _) ⟨W5.heap.size,0,none⟩ 1 1 [.int .i64 k] rfl rfl ?e1 ?e2 ?e3 ?e4 ?e5 ?_)
     case e1=>exact zaL _ _ _
     case e2=>exact za4 _
     case e3=>unfold maxLen;omega
     case e4=>omega
     case e5=>simp;omega
     intro v8 w8 hown8 hgrow8 _ hloc8;have HR8:Hid (w8.ownsRow (w.heap.size+1) 3 1 v8 (zee vars st.1 st.2 is (k+1)).length (Go.Proofs.YtiihalknffbjpaaGreatDoor.icells (zee vars st.1 st.2 is (k+1)))):=by
      show World.ownsRow _ _ _ _ _ _ _;rw[HST.out,zaD,List.length_append,HN.out];exact hown8
     have HB8:Hid (Below (w.heap.size+1) W1 w8):=(HBR.out.alloc hbs5 _).grown hgrow8 (by simp;omega) (fun k hk=>(HROW.out.lt k hk).1);obtain⟨v8a,v8c,rfl,-⟩:=row_form hown8;clear hown8 hgrow8 hloc8 HROW HST;go_wp2;go_roundw
     case rel=>exact⟨k+1,hlt,by go_num,HR8.out,HB8.out⟩
     case measure=>simp[intOf];omega
    ·rw[if_neg (by simp[h0])] at HST;have HR8:Hid (W5.ownsRow (w.heap.size+1) 3 1 (.slice qa n qc) (zee vars st.1 st.2 is (k+1)).length (Go.Proofs.YtiihalknffbjpaaGreatDoor.icells (zee vars st.1 st.2 is (k+1)))):=by
      show World.ownsRow _ _ _ _ _ _ _;rw[HST.out,List.append_nil,HN.out];exact HROW.out
     clear HROW HST;go_wp2;go_roundw
     case rel=>exact⟨k+1,hlt,by go_num,HR8.out,HBR.out⟩
     case measure=>simp[intOf];omega
  ·obtain rfl:k=vars:=by omega
   clear HSOL;go_wp2;go_ret2;rw[HN.out];exact⟨_,rfl,Go.Proofs.YtiihalknffbjpaaGreatDoor.ownsRow_base hrow (Nat.le_succ _),hbw⟩
end
end Bd
namespace Bd
open Go.RowKit
def zrw(C:zej):Nat->Nat->(Nat->Bool)->Int
 |0,_,_=>0
 |k+1,v,f=>C v (f v)+zrw C k (v+1) f
def Agr(k v:Nat)(f f':Nat->Bool):Prop:=∀i,(i<v\/v+k<=i)->f' i=f i
def zsm(k v:Nat)(f' f'':Nat->Bool):Prop:=(∀i,v<=i->i<v+k->f' i=f'' i)\/∃j,v<=j/\j<v+k/\f' j=true/\f'' j=false/\∀i,v<=i->i<j->f' i=f'' i
theorem Agr.down{k v:Nat}{f f':Nat->Bool}(h:Agr (k+1) v f f'){b:Bool}(hb:f' v=b):Agr k (v+1) (turn f v b) f':=fun i hi=>by
 by_cases e:i=v
 ·rw[e,za9,hb]
 ·rw[zaA _ _ e];exact h i (by omega)
theorem Agr.up{k v:Nat}{f f':Nat->Bool}{b:Bool}(h:Agr k (v+1) (turn f v b) f'):Agr (k+1) v f f':=fun i hi=>by
 rw[h i (by omega),zaA _ _ (by omega)]
theorem Agr.at{k v:Nat}{f f':Nat->Bool}{b:Bool}(h:Agr k (v+1) (turn f v b) f'):f' v=b:=by rw[h v (by omega),za9]
theorem zsm.up{k v:Nat}{f' f'':Nat->Bool}(h:zsm k (v+1) f' f'')(e:f' v=f'' v):zsm (k+1) v f' f'':=by
 rcases h with h|⟨j,h1,h2,h3,h4,h5⟩
 ·left;intro i h1 h2
  by_cases ei:i=v
  ·rw[ei,e]
  ·exact h i (by omega) (by omega)
 ·right;refine⟨j,by omega,by omega,h3,h4,fun i i1 i2=>?_⟩
  by_cases ei:i=v
  ·rw[ei,e]
  ·exact h5 i (by omega) i2
structure zyj(C:zej)(k v:Nat)(g:Fn')(f:Nat->Bool)(x:Wy):Prop where
 no:x.can=false->∀f',Agr k v f f'->g f'=false
 yes:x.can=true->∃f',Agr k v f f'/\g f'=true/\x.cost=zrw C k v f'/\(∀i,x.items.testBit i=(decide (v<=i/\i<v+k)&&f' i))/\∀f'',Agr k v f f''->g f''=true->x.cost<zrw C k v f''\/x.cost=zrw C k v f''/\zsm k v f' f''
theorem ziF(C:zej):∀(k v:Nat) (g:Fn') (f:Nat->Bool),zyj C k v g f (zef C k v g f)
 |0,v,g,f=>by
  have key:∀f',Agr 0 v f f'->f'=f:=fun f' h=>funext fun i=>h i (by omega);unfold zef;refine⟨fun h f' hf=>by rw[key f' hf];exact h,fun h=>⟨f,fun _ _=>rfl,h,rfl,fun i=>?_,fun f'' hf _=>Or.inr ⟨rfl,Or.inl fun i h1 h2=>by omega⟩⟩⟩;have:decide (v<=i/\i<v+0)=false:=decide_eq_false (by omega);rw[this];simp
 |k+1,v,g,f=>by
  have ho:=ziF C k (v+1) g (turn f v false);have hi:=ziF C k (v+1) g (turn f v true);unfold zef;generalize zef C k (v+1) g (turn f v false)=wo at ho;generalize zef C k (v+1) g (turn f v true)=wi at hi
  by_cases hc:wi.can=true/\(wo.can=false\/(wiF C v wi).cost<=(woF C v wo).cost)
  ·have hB:zle C v wo wi=wiF C v wi:=by unfold zle;rw[if_pos hc]
   rw[hB];obtain⟨f',a1,a2,a3,a4,a5⟩:=hi.yes hc.1;have hv:=a1.at
   refine⟨fun h=>absurd (h.symm.trans hc.1) (by simp),fun _=>⟨f',a1.up,a2,?_,fun i=>?_,fun f'' hf hg=>?_⟩⟩
   ·show wi.cost+C v true=C v (f' v)+_;rw[hv,a3];omega
   ·show (wi.items|||2^v).testBit i=_;rw[Nat.testBit_or,Nat.testBit_two_pow,a4 i]
    by_cases e:v=i
    ·subst e;rw[hv];have:decide (v<=v/\v<v+(k+1))=true:=decide_eq_true (by omega);rw[this];simp
    ·have:decide (v+1<=i/\i<v+1+k)=decide (v<=i/\i<v+(k+1)):=by
      by_cases q:v+1<=i/\i<v+1+k
      ·rw[decide_eq_true q,decide_eq_true (by omega)]
      ·rw[decide_eq_false q,decide_eq_false (by omega)]
     rw[this];simp[e]
   ·show wi.cost+C v true<C v (f'' v)+_\/wi.cost+C v true=C v (f'' v)+_/\_;cases hq:f'' v with
    |true =>
     rcases a5 f'' (hf.down hq) hg with h|⟨h,hl⟩
     ·left;omega
     ·right;exact⟨by omega,hl.up (hv.trans hq.symm)⟩
    |false =>
     have hcan:wo.can=true:=by
      cases e:wo.can with
      |true=>rfl
      |false=>exact absurd (hg.symm.trans (ho.no e f'' (hf.down hq))) (by simp)
     have hle:wi.cost+C v true<=wo.cost+C v false:=by
      rcases hc.2 with h|h
      ·exact absurd (h.symm.trans hcan) (by simp)
      ·exact h
     obtain⟨fo,b1,b2,b3,b4,b5⟩:=ho.yes hcan;have hmin:wo.cost<=zrw C k (v+1) f'':=by rcases b5 f'' (hf.down hq) hg with h|⟨h,_⟩<;>omega
     by_cases e:wi.cost+C v true<C v false+zrw C k (v+1) f''
     ·left;exact e
     ·right;exact⟨by omega,Or.inr ⟨v,Nat.le_refl _,by omega,hv,hq,fun i h1 h2=>by omega⟩⟩
  ·have hB:zle C v wo wi=woF C v wo:=by unfold zle;rw[if_neg hc]
   rw[hB];refine⟨fun h f' hf=>?_,fun h=>?_⟩
   ·have hco:wo.can=false:=h;have hci:wi.can=false:=by
     cases e:wi.can with
     |false=>rfl
     |true=>exact absurd ⟨e,Or.inl hco⟩ hc
    cases hq:f' v with
    |true=>exact hi.no hci f' (hf.down hq)
    |false=>exact ho.no hco f' (hf.down hq)
   ·have hco:wo.can=true:=h;obtain⟨f',a1,a2,a3,a4,a5⟩:=ho.yes hco;have hv:=a1.at
    refine⟨f',a1.up,a2,?_,fun i=>?_,fun f'' hf hg=>?_⟩
    ·show wo.cost+C v false=C v (f' v)+_;rw[hv,a3];omega
    ·show wo.items.testBit i=_;rw[a4 i]
     by_cases e:v=i
     ·subst e;rw[hv];simp
     ·have:decide (v+1<=i/\i<v+1+k)=decide (v<=i/\i<v+(k+1)):=by
       by_cases q:v+1<=i/\i<v+1+k
       ·rw[decide_eq_true q,decide_eq_true (by omega)]
       ·rw[decide_eq_false q,decide_eq_false (by omega)]
      rw[this]
    ·show wo.cost+C v false<C v (f'' v)+_\/wo.cost+C v false=C v (f'' v)+_/\_;cases hq:f'' v with
     |false =>
      rcases a5 f'' (hf.down hq) hg with h|⟨h,hl⟩
      ·left;omega
      ·right;exact⟨by omega,hl.up (hv.trans hq.symm)⟩
     |true =>
      left;have hci:wi.can=true:=by
       cases e:wi.can with
       |true=>rfl
       |false=>exact absurd (hg.symm.trans (hi.no e f'' (hf.down hq))) (by simp)
      obtain⟨fi,b1,b2,b3,b4,b5⟩:=hi.yes hci;have hmin:wi.cost<=zrw C k (v+1) f'':=by rcases b5 f'' (hf.down hq) hg with h|⟨h,_⟩<;>omega
      have hlt:¬(wi.cost+C v true<=wo.cost+C v false):=fun e=>hc ⟨hci,Or.inr e⟩;omega
end Bd
end Go.Proofs.YtiihalknffbjpaaGreatDoor
