/- space: Cheap. -/
import Derived.Test.YtiihalknffbjpaaGreatDoorWyBelow
import Derived.Test.YtiihalknffbjpaaGreatDoorSvShelf
set_option maxHeartbeats 4000000
set_option maxRecDepth 100000
namespace Go.Proofs.YtiihalknffbjpaaGreatDoor.Bd
open Go.RowKit Go.Maps Go.Deep
section
variable {W0:World} {B p s b:Nat} {O:Nat->Prop} {vars:Nat} {room:Int} {st:List Nd × Int} {F:FuncId} {cb:Array Value} {C:Cost} {dk:Nat} {W X X':World} {ns:List Nd} {nb:Nat} {gv gl gh:Int}
structure NQ (C:Cost) (W0 W:World) (p dk vars:Nat) (ns:List Nd) (F:FuncId) (cb:Array Value) (nb:Nat) (gv gl gh:Int) (q:Nat) (x:Wy) (X:World):Prop where
 ns:NS C W0 W p dk vars ns F cb nb gv gl gh X
 bx:Blk X q 279 #[.int .u64 (x.items:Int),.int .i64 x.cost,.bool x.can]
 q1:W.heap.size + 1<q
 qn:q ≠ nb
theorem NS.box (h:NS C W0 W p dk vars ns F cb nb gv gl gh X) (x:Wy):NQ C W0 W p dk vars ns F cb nb gv gl gh X.heap.size x (X.alloc (.cells #[.int .u64 (x.items:Int),.int .i64 x.cost,.bool x.can] 279)) :=
 ⟨h.below (Go.Proofs.YtiihalknffbjpaaGreatDoor.below_new X _),Blk.new _ _ _,by have:=h.w1.lt;have:=h.q1;have:=h.w2.lt;omega,by have:=h.w2.lt;omega⟩
theorem NS.box0 (h:NS C W0 W p dk vars ns F cb nb gv gl gh X):NQ C W0 W p dk vars ns F cb nb gv gl gh X.heap.size ⟨0,0,false⟩ (X.alloc (.cells #[.int .u64 0,.int .i64 0,.bool false] 279)):=h.box ⟨0,0,false⟩
theorem NQ.kept {q:Nat} {x:Wy} (h:NQ C W0 W p dk vars ns F cb nb gv gl gh q x X) (hd:W0.heap.size<=dk) (hk:Kept (fun k=>k=dk) X X') (hw:∃ L',WayM C X' dk vars ns L'):NQ C W0 W p dk vars ns F cb nb gv gl gh q x X' :=
 ⟨h.ns.kept hd hk hw,h.bx.keptB hk (by have:=h.q1;have:=h.ns.dq;omega),h.q1,h.qn⟩
theorem NQ.below {q:Nat} {x:Wy} (h:NQ C W0 W p dk vars ns F cb nb gv gl gh q x X) (hb:Below X.heap.size X X'):NQ C W0 W p dk vars ns F cb nb gv gl gh q x X':=⟨h.ns.below hb,h.bx.below hb h.bx.lt,h.q1,h.qn⟩
theorem NQ.put {q:Nat} {x:Wy} (h:NQ C W0 W p dk vars ns F cb nb gv gl gh q x X) (hW:W0.heap.size<=W.heap.size) (y:Wy):NQ C W0 W p dk vars ns F cb nb gv gl gh q y (((X.setCell ⟨q,0,none⟩ (.int .u64 (y.items:Int))).setCell ⟨q,1,none⟩ (.int .i64 y.cost)).setCell ⟨q,2,none⟩ (.bool y.can)) :=
 ⟨h.ns.put hW h.q1 h.qn _ _ _,set3 h.bx _ _ _,h.q1,h.qn⟩
def NQat (C:Cost) (W0 W:World) (p dk vars:Nat) (ns:List Nd) (F:FuncId) (cb:Array Value) (nb:Nat) (gv gl gh:Int) (x:Wy) (qv:Value) (X:World):Prop:=∃ q,qv=.pointer (some ⟨q,0,none⟩)/\NQ C W0 W p dk vars ns F cb nb gv gl gh q x X
theorem below_makesW (cx:WyCx W0 B p s b O vars room st F cb C dk) {d:Nat} (hF:FromOkW W0 p vars st.1 F cb C dk d) (h:Int) (L:List (Int × Wy)) (W:World) (hW:Below W0.heap.size W0 W) (hM:WayM C W dk vars st.1 L) (hh:hasB st.1 h=true) (ht:topOf st.1 h ≠ 24) (hd:24<=topOf st.1 h + ((d + 1:Nat):Int)) (hnin:h ∉ L.map Prod.fst) :
  Calls Tryz.prog 298 #[wkV p F cb dk,.int .i64 h] W (WyOut C dk vars st.1 (belowW C vars st.1 h) W):=by
 have hi64:=has_i64 hh (by have:=cx.len;omega)
 have hbA:Below W.heap.size W ((W.alloc (.cells #[.pointer (some ⟨p,0,none⟩),.func (.func F) #[] cb,.map (some dk)] 357)).alloc (.cells #[.int .u64 0,.int .i64 0,.bool false] 279)):=((Below.refl _ W).alloc (Nat.le_refl _) _).alloc (by simp only [World.size_alloc];omega) _
 have hsolA:=cx.sol.new (hW.trans (hbA.mono hW.size))
 have k0:=(Blk.new W 357 #[.pointer (some ⟨p,0,none⟩),.func (.func F) #[] cb,.map (some dk)]).alloc (.cells #[.int .u64 0,.int .i64 0,.bool false] 279)
 have HG:=Lib.hid (spGet hsolA.space h hi64 (by have:=cx.len;omega))
 have HHD:Hid (∀ w1,Below ((W.alloc (.cells #[.pointer (some ⟨p,0,none⟩),.func (.func F) #[] cb,.map (some dk)] 357)).alloc (.cells #[.int .u64 0,.int .i64 0,.bool false] 279)).heap.size ((W.alloc (.cells #[.pointer (some ⟨p,0,none⟩),.func (.func F) #[] cb,.map (some dk)] 357)).alloc (.cells #[.int .u64 0,.int .i64 0,.bool false] 279)) w1->NS C W0 W p dk vars st.1 F cb w1.heap.size (getOf st.1 h).v (getOf st.1 h).l (getOf st.1 h).h (w1.alloc (.cells #[.int .i64 (getOf st.1 h).v,.int .i64 (getOf st.1 h).l,.int .i64 (getOf st.1 h).h] 176))):=fun w1 hb1=>below_head hW hM hb1
 have c0:=k0.cell 0
 have c1:((W.alloc (.cells #[.pointer (some ⟨p,0,none⟩),.func (.func F) #[] cb,.map (some dk)] 357)).alloc (.cells #[.int .u64 0,.int .i64 0,.bool false] 279)).cell? ⟨p,0,none⟩=some (.pointer (some ⟨s,0,none⟩)):=hsolA.blk.cell 0
 have c2:((W.alloc (.cells #[.pointer (some ⟨p,0,none⟩),.func (.func F) #[] cb,.map (some dk)] 357)).alloc (.cells #[.int .u64 0,.int .i64 0,.bool false] 279)).cell? ⟨s,0,none⟩=some (.pointer (some ⟨b,0,none⟩)):=hsolA.space.c0
 have hdkl:=cx.dkl
 have hdW:=hM.lt
 have hW0:=hW.size
 have hv24:=cx.v24
 unfold Nd.val at HG
 rw [decide_eq_true ht] at HG
 have hr:=cx.good.ranked
 have hgn:=getOf_node ht
 obtain ⟨t1,t2,t3,t4⟩:=kids hr ht
 have tv:=(node_at ht).2.2.1
 have htl:=top_lt hr ht
 have ht0:=(topOf_le hr h).1
 have htv:=top_vars cx.good ht
 have hRB:=belowW_node (C:=C) cx.good ht
 rw [<- hgn] at t1 t2 t3 t4 tv hRB
 obtain ⟨v,hv⟩:∃ v:Nat,topOf st.1 h=(v:Int):=⟨(topOf st.1 h).toNat,by omega⟩
 rw [hv] at t1 t3 tv hRB hd htl htv
 rw [Int.toNat_natCast] at hRB
 have HPUT:Hid (∀ X,(∃ L',WayM C X dk vars st.1 L')->∃ w' L',(Instr.mapUpdate 355 (.map (some dk)) (.int .i64 h) (belowW C vars st.1 h).val).run Tryz.prog X=.ok () w'/\WayM C w' dk vars st.1 L'/\Kept (fun j=>j=dk) X w'):=fun X ⟨L',hL⟩=>way_put hL hi64 ht cx.len
 have HLK:Hid (∀ X,Kept (fun _=>False) W X->(Instr.lookup 355 (.map (some dk)) (.int .i64 h) true).run Tryz.prog X=.ok (.tuple #[Wy.val ⟨0,0,false⟩,.bool false]) X):=fun X hk=>by
  obtain ⟨D,hD,hRp⟩:=(hM.kept hk (fun h=>h)).hmap
  exact wlook_none hD hRp hi64 hnin
 have oA:=fromW_ok (ns:=st.1) cx.cok hv24 (getOf st.1 h).l (v + 1)
 have oB:=fromW_ok (ns:=st.1) cx.cok hv24 (getOf st.1 h).h (v + 1)
 have hp24:2 ^ vars<=2 ^ 24:=Nat.pow_le_pow_right (by omega) hv24
 have HF1:Hid (∀ X,Below W0.heap.size W0 X->(∃ L',WayM C X dk vars st.1 L')->Calls Tryz.prog 237 #[wkV p F cb dk,.int .i64 ((v:Int) + 1),.int .i64 (getOf st.1 h).l] X fun e w'=>e=.returned (fromW C vars st.1 (getOf st.1 h).l (v + 1)).val/\∃ L',WayM C w' dk vars st.1 L'/\Kept (fun k=>k=dk) X w'):=fun X h1 ⟨L',h2⟩=>hF (getOf st.1 h).l (v + 1) L' X h1 h2 t2 (by omega) (by omega) (by omega)
 have HF2:Hid (∀ X,Below W0.heap.size W0 X->(∃ L',WayM C X dk vars st.1 L')->Calls Tryz.prog 237 #[wkV p F cb dk,.int .i64 ((v:Int) + 1),.int .i64 (getOf st.1 h).h] X fun e w'=>e=.returned (fromW C vars st.1 (getOf st.1 h).h (v + 1)).val/\∃ L',WayM C w' dk vars st.1 L'/\Kept (fun k=>k=dk) X w'):=fun X h1 ⟨L',h2⟩=>hF (getOf st.1 h).h (v + 1) L' X h1 h2 t4 (by omega) (by omega) (by omega)
 have HBT:Hid (∀ X,Below W0.heap.size W0 X->Calls Tryz.prog 299 #[wkV p F cb dk,.int .i64 (v:Int),(fromW C vars st.1 (getOf st.1 h).l (v + 1)).val,(fromW C vars st.1 (getOf st.1 h).h (v + 1)).val] X fun e w'=>e=.returned (belowW C vars st.1 h).val/\Below X.heap.size X w'):=fun X hX=>by
  rw [hRB]
  exact better_c F cb C vars hv24 cx.ent cx.cok cx.cat hX p dk v (by omega) _ _ ⟨oA.1,oA.2.1⟩ ⟨oB.1,oB.2.1⟩ (Nat.lt_of_lt_of_le (oB.2.2 (by omega)) hp24)
 generalize fromW C vars st.1 (getOf st.1 h).l (v + 1)=RA at *
 generalize fromW C vars st.1 (getOf st.1 h).h (v + 1)=RB at *
 generalize getOf st.1 h=gt at *
 obtain ⟨gv,gl,gh⟩:=gt
 simp only at *
 subst tv
 obtain ⟨R,hR⟩:∃ R,belowW C vars st.1 h=R:=⟨_,rfl⟩
 rw [hR] at HPUT HBT ⊢
 clear hM hsolA hR hRB t1 t2 t3 t4 hgn oA oB hF htl hr hv hd cx
 unfold wkV at *
 go_enter Tryz.func298,Tryz.ntmps298
 go_upto_region 1 with fail
 generalize (W.alloc (.cells #[.pointer (some ⟨p,0,none⟩),.func (.func F) #[] cb,.map (some dk)] 357)).alloc (.cells #[.int .u64 0,.int .i64 0,.bool false] 279)=WA at *
 go_wp2_with fail
 refine HG.out.mono ?_
 rintro e w1 ⟨rfl,hb1⟩
 have hns:=HHD.out w1 hb1
 have hk1:Kept (fun _=>False) W (w1.alloc (.cells #[.int .i64 v,.int .i64 gl,.int .i64 gh] 176)):=Kept.of_below ((hbA.trans (hb1.mono hbA.size)).alloc (Nat.le_trans hbA.size hb1.size) _) _
 have hlk:=HLK.out _ hk1
 unfold Wy.val at hlk
 have a2:=hns.w0.cell 2
 go_upto_region 2 with fail
 generalize w1.alloc (.cells #[.int .i64 v,.int .i64 gl,.int .i64 gh] 176)=W2 at *
 have hn3:=hns.below (Go.Proofs.YtiihalknffbjpaaGreatDoor.below_new W2 (.cells #[.int .u64 ((0:Nat):Int),.int .i64 0,.bool false] 279))
 clear hns hb1 HG HHD HLK c0 c1 c2 hbA k0 hk1
 go_upto_region 7 with fail
 unfold Wy.val at HF1 HF2 HBT HPUT
 have hn4:NS C W0 W p dk vars st.1 F cb w1.heap.size v gl gh (W2.alloc (.cells #[.int .u64 0,.int .i64 0,.bool false] 279)):=hn3
 generalize W2.alloc (.cells #[.int .u64 0,.int .i64 0,.bool false] 279)=W3 at *
 have N0:=hn4.below (Below.refl _ W3).drew
 have G0:=(hn4.box0).below (Below.refl _ _).drew
 have s0:=N0.sc
 have t0:=G0.ns.sc
 have hv0:(0:Int)<=v:=by omega
 have hv23:(v:Int) + 1<=24:=by omega
 clear hn3 hn4 hlk a2
 generalize w1.heap.size=nb at *
 have hwp:IntKind.i64.wrap ((v:Int) + 1)=(v:Int) + 1:=by rw [IntKind.wrap_i64];omega
 rw [<- hwp] at HF1 HF2
 clear hwp
 go_cut [9] (fun qv wx=>NQat C W0 W p dk vars st.1 F cb nb v gl gh R qv wx)
 case rest =>
  obtain ⟨q,rfl,hE⟩:=hcut
  clear N0 G0 s0 t0 HF1 HF2 HBT
  obtain ⟨w8,L8,hrun,hL8,hk8⟩:=HPUT.out _ hE.ns.way
  have hE8:=hE.kept hdkl hk8 ⟨L8,hL8⟩
  have a2:=hE.ns.w0.cell 2
  have e0:=hE.bx.cell 0
  have e1:=hE.bx.cell 1
  have e2:=hE.bx.cell 2
  have f0:=hE8.bx.cell 0
  have f1:=hE8.bx.cell 1
  have f2:=hE8.bx.cell 2
  have z0:=hE8.ns.w1.cell 0
  have z1:=hE8.ns.w1.cell 1
  have z2:=hE8.ns.w1.cell 2
  have y0:=hE8.ns.w1.frozen 0
  have y1:=hE8.ns.w1.frozen 1
  have y2:=hE8.ns.w1.frozen 2
  have hres:=set3 hE8.ns.w1 (.int .u64 (R.items:Int)) (.int .i64 R.cost) (.bool R.can)
  have r0:=hres.cell 0
  have r1:=hres.cell 1
  have r2:=hres.cell 2
  have HFIN:=Lib.hid (way_res R hdW hE8.ns.way hE8.ns.kep)
  clear hres hE hE8 hL8 hk8 HPUT
  go_wp2
  refine bodyPost_ret (v:=.agg #[.int .u64 (R.items:Int),.int .i64 R.cost,.bool R.can]) (by simp [results,Tryz.f298,go_sem,r0,r1,r2]) rfl ?_
  exact ⟨rfl,HFIN.out⟩
 go_region_held3 (fun X=>X.cell? ⟨W.heap.size,0,none⟩=some (.pointer (some ⟨p,0,none⟩))/\X.cell? ⟨W.heap.size,1,none⟩=some (.func (.func F) #[] cb)/\X.cell? ⟨W.heap.size,2,none⟩=some (.map (some dk))/\X.cell? ⟨nb,0,none⟩=some (.int .i64 v)/\X.cell? ⟨nb,1,none⟩=some (.int .i64 gl)/\X.cell? ⟨nb,2,none⟩=some (.int .i64 gh)) (first | with_reducible exact s0 | with_reducible exact t0 | with_reducible exact s1 | with_reducible exact t1 | with_reducible exact u1 | with_reducible exact s2 | with_reducible exact t2 | with_reducible exact u2 | with_reducible exact s3 | with_reducible exact t3 | with_reducible exact u3 | with_reducible exact x3)
  (first
   | (go_at_call 237;with_reducible refine (HF1.out _ N0.bel N0.way).mono ?_;rintro e w4 ⟨rfl,L4,hM4,hk4⟩;have N1:=N0.kept hdkl hk4 ⟨L4,hM4⟩;have G1:=N1.box0;have s1:=N1.sc;have t1:=G1.ns.sc;clear hM4 hk4 N0 G0 s0 t0 HF1)
   | (go_at_call 237;with_reducible refine (HF1.out _ G0.ns.bel G0.ns.way).mono ?_;rintro e w4 ⟨rfl,L4,hM4,hk4⟩;have U1:=G0.kept hdkl hk4 ⟨L4,hM4⟩;have u1:=U1.ns.sc;clear hM4 hk4 N0 G0 s0 t0 HF1)
   | (go_at_call 237;with_reducible refine (HF2.out _ N1.bel N1.way).mono ?_;rintro e w5 ⟨rfl,L5,hM5,hk5⟩;have N2:=N1.kept hdkl hk5 ⟨L5,hM5⟩;have G2:=N2.box0;have s2:=N2.sc;have t2:=G2.ns.sc;clear hM5 hk5 N1 G1 s1 t1 HF2)
   | (go_at_call 237;with_reducible refine (HF2.out _ G1.ns.bel G1.ns.way).mono ?_;rintro e w5 ⟨rfl,L5,hM5,hk5⟩;have U2:=G1.kept hdkl hk5 ⟨L5,hM5⟩;have u2:=U2.ns.sc;clear hM5 hk5 N1 G1 s1 t1 HF2)
   | (go_at_call 237;with_reducible refine (HF2.out _ U1.ns.bel U1.ns.way).mono ?_;rintro e w5 ⟨rfl,L5,hM5,hk5⟩;have U2:=U1.kept hdkl hk5 ⟨L5,hM5⟩;have u2:=U2.ns.sc;clear hM5 hk5 U1 u1 HF2)
   | (go_at_call 299;with_reducible refine (HBT.out _ N2.bel).mono ?_;rintro e w6 ⟨rfl,hb6⟩;have N3':=N2.below hb6;have N3:=N3'.box0;have s3:=N3'.sc;have t3:=N3.ns.sc;have z0:=N3.bx.cell 0;have z1:=N3.bx.cell 1;have z2:=N3.bx.cell 2;have y0:=N3.bx.frozen 0;have y1:=N3.bx.frozen 1;have y2:=N3.bx.frozen 2;have NE:=N3'.box R;have x3:=NE.ns.sc;have HE:=Lib.hid NE;clear hb6 N3 N3' NE N2 G2 s2 t2 HBT)
   | (go_at_call 299;with_reducible refine (HBT.out _ G2.ns.bel).mono ?_;rintro e w6 ⟨rfl,hb6⟩;have N3:=G2.below hb6;have s3:=N3.ns.sc;have t3:=(N3.put hW0 R).ns.sc;have z0:=N3.bx.cell 0;have z1:=N3.bx.cell 1;have z2:=N3.bx.cell 2;have y0:=N3.bx.frozen 0;have y1:=N3.bx.frozen 1;have y2:=N3.bx.frozen 2;have HE:=Lib.hid (N3.put hW0 R);clear hb6 N3 N2 G2 s2 t2 HBT)
   | (go_at_call 299;with_reducible refine (HBT.out _ U2.ns.bel).mono ?_;rintro e w6 ⟨rfl,hb6⟩;have N3:=U2.below hb6;have s3:=N3.ns.sc;have t3:=(N3.put hW0 R).ns.sc;have z0:=N3.bx.cell 0;have z1:=N3.bx.cell 1;have z2:=N3.bx.cell 2;have y0:=N3.bx.frozen 0;have y1:=N3.bx.frozen 1;have y2:=N3.bx.frozen 2;have HE:=Lib.hid (N3.put hW0 R);clear hb6 N3 U2 u2 HBT))
 all_goals
  have hE:=HE.out
  clear HE
  try clear z0 z1 z2
  try clear y0 y1 y2
  try clear s3 t3
  try clear x3
  go_wp2_with fail
  go_meet
  case rel=>exact ⟨_,rfl,hE⟩
end
end Go.Proofs.YtiihalknffbjpaaGreatDoor.Bd
namespace Go.Proofs.YtiihalknffbjpaaGreatDoor.Bd
open Go.RowKit Go.Maps Go.Deep
section
variable {W0:World} {B p s b:Nat} {O:Nat->Prop} {vars:Nat} {room:Int} {st:List Nd × Int} {F:FuncId} {cb:Array Value} {C:Cost} {dk:Nat}
theorem belowW_any (cx:WyCx W0 B p s b O vars room st F cb C dk):∀ d,BelowOkW W0 p vars st.1 F cb C dk d:=by
 intro d
 induction d with
 | zero=>exact fun h L W hW hM hh hd=>below_endW cx h L W hW hM hh (by have:=(topOf_le cx.good.ranked h).2;omega)
 | succ d ih =>
  intro h L W hW hM hh hd
  by_cases ht:topOf st.1 h=24
  ·exact below_endW cx h L W hW hM hh ht
  ·by_cases hin:h ∈ L.map Prod.fst
   ·obtain ⟨q,hq,rfl⟩:=List.mem_map.1 hin
    exact below_foundW cx q.1 L W hW hM hh ht q.2 hq
   ·exact below_makesW cx (from_step cx ih) h L W hW hM hh ht hd hin
theorem fromW_any (cx:WyCx W0 B p s b O vars room st F cb C dk) (h:Int) (v:Nat) (L:List (Int × Wy)) (W:World) (hW:Below W0.heap.size W0 W) (hM:WayM C W dk vars st.1 L) (hh:hasB st.1 h=true) (hv:(v:Int)<=topOf st.1 h) (hvv:v<=vars):Calls Tryz.prog 237 #[wkV p F cb dk,.int .i64 (v:Int),.int .i64 h] W (WyOut C dk vars st.1 (fromW C vars st.1 h v) W) :=
 from_step cx (belowW_any cx 24) h v L W hW hM hh hv hvv (by have:=(topOf_le cx.good.ranked h).1;omega)
theorem cheapest_c {w:World} (hsol:SolAt B w p s b O vars room st) (hg:Good vars st.1) (hl:st.1.length<=90000) (h24:vars<=24) (hent:∀ args w,(callFunc F args).run Tryz.prog w=.ok (.enter F args) w) (hcok:CostOk C) (hcat:CostAt w F cb C vars) (hh:hasB st.1 st.2=true) :
  Calls Tryz.prog 171 #[.pointer (some ⟨p,0,none⟩),.func (.func F) #[] cb] w fun e w'=>e=.returned (fromW C vars st.1 st.2 0).val/\Below w.heap.size w w':=by
 have s1:(w.alloc (.cells #[.int .u64 0,.int .i64 0,.bool false] 279)).heap.size=w.heap.size + 1:=by simp
 have s2:((w.alloc (.cells #[.int .u64 0,.int .i64 0,.bool false] 279)).alloc (.map #[] 0)).heap.size=w.heap.size + 1 + 1:=by rw [World.size_alloc,s1]
 have hb1:=Go.Proofs.YtiihalknffbjpaaGreatDoor.below_new w (.cells #[.int .u64 0,.int .i64 0,.bool false] 279)
 have hb2:=hb1.alloc hb1.size (.map #[] 0)
 have hb3:=hb2.alloc hb2.size (.cells #[.pointer (some ⟨p,0,none⟩),.func (.func F) #[] cb,.map (some (w.heap.size + 1))] 357)
 have hown:=World.ownsMap_made (w.alloc (.cells #[.int .u64 0,.int .i64 0,.bool false] 279)) Tryz.prog 3 wayR
 rw [s1] at hown
 have hM0:WayM C ((w.alloc (.cells #[.int .u64 0,.int .i64 0,.bool false] 279)).alloc (.map #[] 0)) (w.heap.size + 1) vars st.1 []:=⟨⟨_,hown,Rep.empty⟩,(fun p hp=>by cases hp),(fun p hp=>by cases hp),by simp⟩
 have hM:=(hM0.new (Go.Proofs.YtiihalknffbjpaaGreatDoor.below_new _ (.cells #[.pointer (some ⟨p,0,none⟩),.func (.func F) #[] cb,.map (some (w.heap.size + 1))] 357))).new (Below.refl _ _).drew
 have cx:WyCx w B p s b O vars room st F cb C (w.heap.size + 1):=⟨hsol,hg,hl,h24,hent,hcok,hcat,by omega⟩
 have HFR:Hid (Calls Tryz.prog 237 #[.agg #[.pointer (some ⟨p,0,none⟩),.func (.func F) #[] cb,.map (some (w.heap.size + 1))],.int .i64 0,.int .i64 st.2] (((w.alloc (.cells #[.int .u64 0,.int .i64 0,.bool false] 279)).alloc (.map #[] 0)).alloc (.cells #[.pointer (some ⟨p,0,none⟩),.func (.func F) #[] cb,.map (some (w.heap.size + 1))] 357)).drew fun e w'=>e=.returned (fromW C vars st.1 st.2 0).val/\∃ L',WayM C w' (w.heap.size + 1) vars st.1 L'/\Kept (fun k=>k=w.heap.size + 1) (((w.alloc (.cells #[.int .u64 0,.int .i64 0,.bool false] 279)).alloc (.map #[] 0)).alloc (.cells #[.pointer (some ⟨p,0,none⟩),.func (.func F) #[] cb,.map (some (w.heap.size + 1))] 357)).drew w'):=fromW_any cx st.2 0 [] _ hb3.drew hM hh (topOf_le hg.ranked st.2).1 (Nat.zero_le _)
 have k0:=((Blk.new w 279 #[.int .u64 0,.int .i64 0,.bool false]).alloc (.map #[] 0)).alloc (.cells #[.pointer (some ⟨p,0,none⟩),.func (.func F) #[] cb,.map (some (w.heap.size + 1))] 357)
 have k0d:Blk (((w.alloc (.cells #[.int .u64 0,.int .i64 0,.bool false] 279)).alloc (.map #[] 0)).alloc (.cells #[.pointer (some ⟨p,0,none⟩),.func (.func F) #[] cb,.map (some (w.heap.size + 1))] 357)).drew w.heap.size 279 #[.int .u64 0,.int .i64 0,.bool false]:=k0.below (Below.refl _ _).drew k0.lt
 have k1:=Blk.new ((w.alloc (.cells #[.int .u64 0,.int .i64 0,.bool false] 279)).alloc (.map #[] 0)) 357 #[.pointer (some ⟨p,0,none⟩),.func (.func F) #[] cb,.map (some (w.heap.size + 1))]
 rw [s2] at k1
 have cp:=(hsol.new hb3).blk.cell 1
 have HK1:=Lib.hid (k1.below (Below.refl _ _).drew k1.lt)
 have HKP:=Lib.hid ((hsol.new hb3).new (Below.refl _ _).drew).blk
 have hplt:=hsol.blk.lt
 have a0:=k1.cell 0
 have a1:=k1.cell 1
 have a2:=k1.cell 2
 have hmm:=@run_makeMap Tryz.prog
 have hst:(store ⟨w.heap.size + 1 + 1,1,none⟩ (Value.func (Fn.func F) #[] cb)).run Tryz.prog (((w.alloc (.cells #[.int .u64 0,.int .i64 0,.bool false] 279)).alloc (.map #[] 0)).alloc (.cells #[.pointer (some ⟨p,0,none⟩),.nilFunc,.map none] 357))=.ok () (((w.alloc (.cells #[.int .u64 0,.int .i64 0,.bool false] 279)).alloc (.map #[] 0)).alloc (.cells #[.pointer (some ⟨p,0,none⟩),.func (.func F) #[] cb,.map none] 357)):=by
  have kz:=Blk.new ((w.alloc (.cells #[.int .u64 0,.int .i64 0,.bool false] 279)).alloc (.map #[] 0)) 357 #[.pointer (some ⟨p,0,none⟩),.nilFunc,.map none]
  rw [s2] at kz
  have c1:(((w.alloc (.cells #[.int .u64 0,.int .i64 0,.bool false] 279)).alloc (.map #[] 0)).alloc (.cells #[.pointer (some ⟨p,0,none⟩),.nilFunc,.map none] 357)).cell? ⟨w.heap.size + 1 + 1,1,none⟩=some .nilFunc:=kz.cell 1
  rw [run_store _ _ _ _ _ (by rfl),c1,kz.frozen 1]
  exact congrArg (fun X=>Result.ok () X) (World.setCell_alloc_at _ _ _ _ _ s2.symm)
 have HB3:=Lib.hid hb3
 have HK0:=Lib.hid k0d
 clear hM hM0 hown cx hb1 hb2 hb3 k0 k0d k1 hsol hg hcat hent hcok
 generalize fromW C vars st.1 st.2 0=R at *
 go_enter Tryz.func171,Tryz.ntmps171
 go_upto_region 2 with fail
 generalize ((w.alloc (.cells #[.int .u64 0,.int .i64 0,.bool false] 279)).alloc (.map #[] 0)).alloc (.cells #[.pointer (some ⟨p,0,none⟩),.func (.func F) #[] cb,.map (some (w.heap.size + 1))] 357)=WA at *
 have S0:WA.drew.cell? ⟨w.heap.size + 1 + 1,0,none⟩=some (.pointer (some ⟨p,0,none⟩))/\WA.drew.cell? ⟨w.heap.size + 1 + 1,1,none⟩=some (.func (.func F) #[] cb)/\WA.drew.cell? ⟨w.heap.size + 1 + 1,2,none⟩=some (.map (some (w.heap.size + 1)))/\WA.drew.cell? ⟨p,1,none⟩=some (.int .i64 st.2):=⟨a0,a1,a2,cp⟩
 have SK:Hid (∀ X,Kept (fun k=>k=w.heap.size + 1\/k=w.heap.size) WA.drew X->X.cell? ⟨w.heap.size + 1 + 1,0,none⟩=some (.pointer (some ⟨p,0,none⟩))/\X.cell? ⟨w.heap.size + 1 + 1,1,none⟩=some (.func (.func F) #[] cb)/\X.cell? ⟨w.heap.size + 1 + 1,2,none⟩=some (.map (some (w.heap.size + 1)))/\X.cell? ⟨p,1,none⟩=some (.int .i64 st.2)):=fun X hk=>by
  have k3:=HK1.out.keptB hk (by omega)
  have k4:=HKP.out.keptB hk (by omega)
  exact ⟨k3.cell 0,k3.cell 1,k3.cell 2,k4.cell 1⟩
 have SKS:Hid (∀ X,Kept (fun k=>k=w.heap.size + 1) WA.drew X->Kept (fun k=>k=w.heap.size + 1\/k=w.heap.size) WA.drew (((X.setCell ⟨w.heap.size,0,none⟩ (.int .u64 (R.items:Int))).setCell ⟨w.heap.size,1,none⟩ (.int .i64 R.cost)).setCell ⟨w.heap.size,2,none⟩ (.bool R.can))):=fun X hk =>
  ((((Kept.refl (fun k=>k=w.heap.size + 1\/k=w.heap.size) WA.drew).andThen hk (fun _ h _=>Or.inl h)).andThen (Kept.setCell (S:=fun k=>k=w.heap.size) X ⟨w.heap.size,0,none⟩ _ rfl) (fun _ h _=>Or.inr h)).andThen (Kept.setCell (S:=fun k=>k=w.heap.size) _ ⟨w.heap.size,1,none⟩ _ rfl) (fun _ h _=>Or.inr h)).andThen (Kept.setCell (S:=fun k=>k=w.heap.size) _ ⟨w.heap.size,2,none⟩ _ rfl) (fun _ h _=>Or.inr h)
 have SKW:Hid (∀ X,Kept (fun k=>k=w.heap.size + 1) WA.drew X->X.cell? ⟨w.heap.size + 1 + 1,0,none⟩=some (.pointer (some ⟨p,0,none⟩))/\X.cell? ⟨w.heap.size + 1 + 1,1,none⟩=some (.func (.func F) #[] cb)/\X.cell? ⟨w.heap.size + 1 + 1,2,none⟩=some (.map (some (w.heap.size + 1)))/\X.cell? ⟨p,1,none⟩=some (.int .i64 st.2)):=fun X hk=>by
  have k3:=HK1.out.keptB hk (by omega)
  have k4:=HKP.out.keptB hk (by omega)
  exact ⟨k3.cell 0,k3.cell 1,k3.cell 2,k4.cell 1⟩
 clear a0 a1 a2 cp
 go_region_held3 (fun X=>X.cell? ⟨w.heap.size + 1 + 1,0,none⟩=some (.pointer (some ⟨p,0,none⟩))/\X.cell? ⟨w.heap.size + 1 + 1,1,none⟩=some (.func (.func F) #[] cb)/\X.cell? ⟨w.heap.size + 1 + 1,2,none⟩=some (.map (some (w.heap.size + 1)))/\X.cell? ⟨p,1,none⟩=some (.int .i64 st.2)) (first | with_reducible exact S0 | with_reducible exact S1 | with_reducible exact S2)
  (first
   | (go_at_call 237;with_reducible refine HFR.out.mono ?_;rintro e w2 ⟨rfl,L2,hM2,hk2⟩;have k2:=HK0.out.keptB hk2 (by omega);have S1:=SKW.out _ hk2;have S2:=SK.out _ (SKS.out _ hk2);have z0:=k2.cell 0;have z1:=k2.cell 1;have z2:=k2.cell 2;have y0:=k2.frozen 0;have y1:=k2.frozen 1;have y2:=k2.frozen 2;unfold Wy.val))
 all_goals
  have hres:=set3 k2 (.int .u64 (R.items:Int)) (.int .i64 R.cost) (.bool R.can)
  have r0:=hres.cell 0
  have r1:=hres.cell 1
  have r2:=hres.cell 2
  have HFIN:Hid (Below w.heap.size w (((w2.setCell ⟨w.heap.size,0,none⟩ (.int .u64 (R.items:Int))).setCell ⟨w.heap.size,1,none⟩ (.int .i64 R.cost)).setCell ⟨w.heap.size,2,none⟩ (.bool R.can))) :=
   (((HB3.out.drew.trans (hk2.below HB3.out.size (fun j e=>by omega))).setCell (p:=⟨w.heap.size,0,none⟩) (Nat.le_refl _) _).setCell (p:=⟨w.heap.size,1,none⟩) (Nat.le_refl _) _).setCell (p:=⟨w.heap.size,2,none⟩) (Nat.le_refl _) _
  clear hres k2 z0 z1 z2 y0 y1 y2 hM2 hk2
  go_wp2
  refine bodyPost_ret (v:=.agg #[.int .u64 (R.items:Int),.int .i64 R.cost,.bool R.can]) (by simp [results,Tryz.f171,go_sem,r0,r1,r2]) rfl ?_
  exact ⟨rfl,HFIN.out⟩
end
end Go.Proofs.YtiihalknffbjpaaGreatDoor.Bd
namespace Go.Proofs.YtiihalknffbjpaaGreatDoor.Bd
open Go.RowKit Go.Maps Go.Deep
def oneI (b:Bool):Int:=if b then 1 else 0
theorem one_c (x:Bool) (w:World):Calls Tryz.prog 86 #[.bool x] w fun e w'=>e=.returned (.int .i64 (oneI x))/\w=w':=by
 cases x
 ·go_enter Tryz.func86,Tryz.ntmps86
  go_wp2
  go_ret
  exact ⟨rfl,rfl⟩
 ·go_enter Tryz.func86,Tryz.ntmps86
  go_wp2
  go_ret
  exact ⟨rfl,rfl⟩
section
variable {B p s b:Nat} {O:Nat->Prop} {vars:Nat} {room:Int} {st:List Nd × Int} {F:FuncId} {cb:Array Value} {C:Cost} {w:World}
theorem whole_c (hsol:SolAt B w p s b O vars room st) (hl:st.1.length<=90000) (hh:hasB st.1 st.2=true):Calls Tryz.prog 88 #[.pointer (some ⟨p,0,none⟩)] w fun e w'=>e=.returned .nilIface/\Below w.heap.size w w':=by
 have HAQ:Hid (∀ n,Calls Tryz.prog 156 #[.pointer (some ⟨s,0,none⟩)] (w.drewN n) fun e w'=>e=.returned (.bool false)/\w'=w.drewN n):=fun n=>(absent_c (hsol.space.new (below_drewN _ w n))).mono fun e w' ⟨h1,h2⟩=>⟨h1,h2.symm⟩
 have HHQ:Hid (∀ n,Calls Tryz.prog 163 #[.pointer (some ⟨b,0,none⟩),.int .i64 st.2] (w.drewN n) fun e w'=>e=.returned (.bool true)/\w'=w.drewN n):=fun n=>(spHas (hsol.space.new (below_drewN _ w n)) st.2 (has_i64 hh (by omega)) hl).mono fun e w' ⟨h1,h2⟩=>⟨by rw [h1,hh],h2.symm⟩
 have c0:w.cell? ⟨p,0,none⟩=some (.pointer (some ⟨s,0,none⟩)):=hsol.blk.cell 0
 have c1:w.cell? ⟨p,1,none⟩=some (.int .i64 st.2):=hsol.blk.cell 1
 have c2:w.cell? ⟨s,0,none⟩=some (.pointer (some ⟨b,0,none⟩)):=hsol.space.c0
 clear hsol
 go_enter Tryz.func88,Tryz.ntmps88
 go_wp2_with fail
 go_quiet (first | (go_at_call 156;refine Calls.quiet_of_same (HAQ.out _)) | (go_at_call 163;refine Calls.quiet_of_same (HHQ.out _)))
 go_wp2
 go_ret
 exact ⟨rfl,below_drewN _ w _⟩
end
end Go.Proofs.YtiihalknffbjpaaGreatDoor.Bd
namespace Go.Proofs.YtiihalknffbjpaaGreatDoor.Bd
open Go.RowKit Go.Maps Go.Deep
def Wy.best (x:Wy):Value:=.tuple (if x.can then #[.int .u64 (x.items:Int),.nilIface] else #[.int .u64 0,.iface 57 (.int .i64 8)])
section
variable {B p s b:Nat} {O:Nat->Prop} {vars:Nat} {room:Int} {st:List Nd × Int} {F:FuncId} {cb:Array Value} {C:Cost} {w:World}
theorem CostAt.new {W0 W1:World} (h:CostAt W0 F cb C vars) (hb:Below W0.heap.size W0 W1):CostAt W1 F cb C vars:=fun W i bb hW hi=>h W i bb (hb.trans (hW.mono hb.size)) hi
theorem best_c (hsol:SolAt B w p s b O vars room st) (hg:Good vars st.1) (hl:st.1.length<=90000) (h24:vars<=24) (hent:∀ args w,(callFunc F args).run Tryz.prog w=.ok (.enter F args) w) (hcok:CostOk C) (hcat:CostAt w F cb C vars) (hh:hasB st.1 st.2=true) :
  Calls Tryz.prog 84 #[.pointer (some ⟨p,0,none⟩),.func (.func F) #[] cb] w fun e w'=>e=.returned (fromW C vars st.1 st.2 0).best/\Below w.heap.size w w':=by
 have HWH:=Lib.hid (whole_c hsol hl hh)
 have HCH:Hid (∀ W,Below w.heap.size w W->Calls Tryz.prog 171 #[.pointer (some ⟨p,0,none⟩),.func (.func F) #[] cb] W fun e w'=>e=.returned (fromW C vars st.1 st.2 0).val/\Below W.heap.size W w'):=fun W hW=>cheapest_c (hsol.new hW) hg hl h24 hent hcok (hcat.new hW) hh
 clear hsol hg hcat hh hent hcok
 generalize fromW C vars st.1 st.2 0=R at *
 obtain ⟨ri,rc,rb⟩:=R
 unfold Wy.val at HCH
 unfold Wy.best
 go_enter Tryz.func84,Tryz.ntmps84
 go_wp2_with fail
 refine HWH.out.mono ?_
 rintro e w2 ⟨rfl,hb2⟩
 clear HWH
 go_wp2_with fail
 refine (HCH.out _ hb2).mono ?_
 rintro e w4 ⟨rfl,hb4⟩
 have kb:=Blk.new w4 279 #[.int .u64 (ri:Int),.int .i64 rc,.bool rb]
 have q0:=kb.cell 0
 have q2:=kb.cell 2
 have HB:Hid (Below w.heap.size w (w4.alloc (.cells #[.int .u64 (ri:Int),.int .i64 rc,.bool rb] 279))):=(hb2.trans (hb4.mono hb2.size)).alloc (Nat.le_trans hb2.size hb4.size) _
 clear kb hb2 hb4 HCH
 go_upto_region 5 with fail
 generalize w4.alloc (.cells #[.int .u64 (ri:Int),.int .i64 rc,.bool rb] 279)=W5 at *
 cases rb with
 | false =>
  go_wp2
  go_ret2
  exact ⟨rfl,HB.out⟩
 | true =>
  go_wp2
  go_ret2
  exact ⟨rfl,HB.out⟩
def leastC:Cost:=fun _ b=>oneI b
theorem oneI_ok (x:Bool):0<=oneI x/\oneI x<=1000000:=by unfold oneI;split <;> omega
theorem ent_least1:∀ args w,(callFunc 85 args).run Tryz.prog w=.ok (.enter 85 args) w:=by intro args w;kernel_rfl
theorem least1_c (i:Int) (bb:Bool) (w:World):Calls Tryz.prog 85 #[.int .i64 i,.bool bb] w fun e w'=>e=.returned (.int .i64 (oneI bb))/\Below w.heap.size w w':=by
 have HO:=Lib.hid (one_c bb w)
 go_enter Tryz.func85,Tryz.ntmps85
 go_wp2_with fail
 refine HO.out.mono ?_
 rintro e w1 ⟨rfl,rfl⟩
 go_wp2
 go_ret
 exact ⟨rfl,Below.refl _ _⟩
theorem least_c (hsol:SolAt B w p s b O vars room st) (hg:Good vars st.1) (hl:st.1.length<=90000) (h24:vars<=24) (hh:hasB st.1 st.2=true) :
  Calls Tryz.prog 27 #[.pointer (some ⟨p,0,none⟩)] w fun e w'=>e=.returned (fromW leastC vars st.1 st.2 0).best/\Below w.heap.size w w':=by
 have HS:=Lib.hid (best_c (F:=85) (cb:=#[]) (C:=leastC) hsol hg hl h24 ent_least1 (fun _ b=>oneI_ok b) (fun W i bb _ _=>least1_c i bb W) hh)
 clear hsol hg hh
 generalize fromW leastC vars st.1 st.2 0=R at *
 obtain ⟨ri,rc,rb⟩:=R
 unfold Wy.best at *
 cases rb with
 | false =>
  go_enter Tryz.func27,Tryz.ntmps27
  go_wp2_with fail
  refine HS.out.mono ?_
  rintro e w1 ⟨rfl,hb⟩
  have HB:=Lib.hid hb
  clear HS hb
  go_wp2
  go_ret2
  exact ⟨rfl,HB.out⟩
 | true =>
  go_enter Tryz.func27,Tryz.ntmps27
  go_wp2_with fail
  refine HS.out.mono ?_
  rintro e w1 ⟨rfl,hb⟩
  have HB:=Lib.hid hb
  clear HS hb
  go_wp2
  go_ret2
  exact ⟨rfl,HB.out⟩
def nearC (now:Nat):Cost:=fun i b=>oneI (b != now.testBit i)
theorem ent_near1:∀ args w,(callFunc 87 args).run Tryz.prog w=.ok (.enter 87 args) w:=by intro args w;kernel_rfl
theorem near1_c (now i:Nat) (bb:Bool) (a:Nat) (w:World) (hi:i<64) (hnow:now<2 ^ 64) (ha:w.cell? ⟨a,0,none⟩=some (.int .u64 (now:Int))):Calls Tryz.prog 87 #[.int .i64 (i:Int),.bool bb,.pointer (some ⟨a,0,none⟩)] w fun e w'=>e=.returned (.int .i64 (nearC now i bb))/\Below w.heap.size w w':=by
 have HO:=Lib.hid (one_c (bb != now.testBit i) w)
 have hs:=shr_bit1 now i (by omega)
 have hR:(!(bb == now.testBit i))=(bb != now.testBit i):=rfl
 unfold nearC
 go_enter Tryz.func87,Tryz.ntmps87
 go_wp2_with fail
 refine HO.out.mono ?_
 rintro e w1 ⟨rfl,rfl⟩
 go_wp2
 go_ret
 exact ⟨rfl,Below.refl _ _⟩
theorem near_cost (now vars:Nat) (hv:vars<=24) (hnow:now<2 ^ 64) {a:Nat} {W0:World} (ha:a<W0.heap.size) (ca:W0.cell? ⟨a,0,none⟩=some (.int .u64 (now:Int))):CostAt W0 87 #[.pointer (some ⟨a,0,none⟩)] (nearC now) vars:=fun W j bb hW hj =>
 near1_c now j bb a W (by omega) hnow ((hW.cell (p:=⟨a,0,none⟩) ha).trans ca)
theorem near_c (hsol:SolAt B w p s b O vars room st) (hg:Good vars st.1) (hl:st.1.length<=90000) (h24:vars<=24) (hh:hasB st.1 st.2=true) (now:Nat) (hnow:now<2 ^ 64) :
  Calls Tryz.prog 28 #[.pointer (some ⟨p,0,none⟩),.int .u64 (now:Int)] w fun e w'=>e=.returned (fromW (nearC now) vars st.1 st.2 0).best/\Below w.heap.size w w':=by
 have hbA:=Go.Proofs.YtiihalknffbjpaaGreatDoor.below_new w (.cells #[.int .u64 (now:Int)] 48)
 have HS:=Lib.hid (best_c (F:=87) (cb:=#[.pointer (some ⟨w.heap.size,0,none⟩)]) (C:=nearC now) (hsol.new hbA) hg hl h24 ent_near1 (fun i b=>oneI_ok _) (near_cost now vars h24 hnow (by simp) (by simp)) hh)
 have HBA:=Lib.hid hbA
 clear hsol hg hh hbA
 generalize fromW (nearC now) vars st.1 st.2 0=R at *
 obtain ⟨ri,rc,rb⟩:=R
 unfold Wy.best at *
 cases rb with
 | false =>
  go_enter Tryz.func28,Tryz.ntmps28
  go_wp2_with fail
  refine HS.out.mono ?_
  rintro e w1 ⟨rfl,hb⟩
  have HB:Hid (Below w.heap.size w w1):=HBA.out.trans (hb.mono HBA.out.size)
  clear HS hb HBA
  go_wp2
  go_ret2
  exact ⟨rfl,HB.out⟩
 | true =>
  go_enter Tryz.func28,Tryz.ntmps28
  go_wp2_with fail
  refine HS.out.mono ?_
  rintro e w1 ⟨rfl,hb⟩
  have HB:Hid (Below w.heap.size w w1):=HBA.out.trans (hb.mono HBA.out.size)
  clear HS hb HBA
  go_wp2
  go_ret2
  exact ⟨rfl,HB.out⟩
end
end Go.Proofs.YtiihalknffbjpaaGreatDoor.Bd
namespace Go.Proofs.YtiihalknffbjpaaGreatDoor
open Go.RowKit Go.Deep
theorem ix_intsF (F:Nat) (cb:Array Value) (p:Int->Bool) (xs:List Int) (a:Option Addr) (cap:Nat) (w:World) (hm:xs.length<=9223372036854775807)
  (hent:∀ args w,(callFunc F args).run Tryz.prog w=.ok (.enter F args) w) (hI:IntsIn w a xs)
  (hf:∀ W i,Below w.heap.size w W->i<xs.length->Calls Tryz.prog F (#[.int .i64 (xs.getD i 0)]++cb) W fun e w'=>e=.returned (.bool (p (xs.getD i 0)))/\Below W.heap.size W w') :
  Calls Tryz.prog 173 #[.slice a xs.length cap,.func (.func F) #[] cb] w fun e w'=>e=.returned (.int .i64 (idxF p xs))/\Below w.heap.size w w':=by
 have HF:=Lib.hid hf
 have HI:=Lib.hid hI
 clear hf hI
 go_enter Tryz.func173,Tryz.ntmps173
 go_wp2_with fail
 go_loopw [8] (fun kV wr=>∃ k:Nat,k<=xs.length/\kV=.int .i64 (k:Int)/\(∀ j,j<k->p (xs.getD j 0)=false)/\Below w.heap.size w wr) (fun kV _=>xs.length - (intOf kV).toNat)
 case atStart=>exact ⟨0,Nat.zero_le _,rfl,fun j h=>by omega,Below.refl _ _⟩
 case round =>
  obtain ⟨k,hk,rfl,h1,hbr⟩:=hrel
  have H1:=Lib.hid h1
  have HBR:=Lib.hid hbr
  clear h1 hbr
  by_cases hlt:k<xs.length
  ·obtain ⟨ad,rfl,hl,hc⟩:=HI.out.below HBR.out k hlt
   have HC:=Lib.hid (HF.out wr k HBR.out hlt)
   cases hp:p (xs.getD k 0) with
   | true =>
    rw [hp] at HC
    have HP:=Lib.hid hp
    clear hp
    generalize hx:xs.getD k 0=x at *
    have HX:=Lib.hid hx
    clear hx
    go_wp2_with fail
    refine HC.out.mono ?_
    rintro e w1 ⟨rfl,hb1⟩
    have HB1:Hid (Below w.heap.size w w1):=HBR.out.trans (hb1.mono HBR.out.size)
    clear hb1 HC
    go_wp2
    go_ret
    exact ⟨by rw [idxF_hit H1.out hlt (by rw [HX.out];exact HP.out)];rfl,HB1.out⟩
   | false =>
    rw [hp] at HC
    have HP:=Lib.hid hp
    clear hp
    generalize hx:xs.getD k 0=x at *
    have HX:=Lib.hid hx
    clear hx
    go_wp2_with fail
    refine HC.out.mono ?_
    rintro e w1 ⟨rfl,hb1⟩
    have HB1:Hid (Below w.heap.size w w1):=HBR.out.trans (hb1.mono HBR.out.size)
    clear hb1 HC
    go_wp2
    go_roundw
    case rel=>exact ⟨k + 1,hlt,by go_num,fun j hj=>(by
     rcases Nat.lt_succ_iff_lt_or_eq.1 hj with e | e
     ·exact H1.out j e
     ·rw [e,HX.out];exact HP.out),HB1.out⟩
    case measure=>simp [intOf];omega
  ·obtain rfl:k=xs.length:=by omega
   go_wp2
   go_ret
   exact ⟨by rw [idxF_none H1.out];rfl,HBR.out⟩
theorem cf_intsF (F:Nat) (cb:Array Value) (p:Int->Bool) (xs:List Int) (a:Option Addr) (cap:Nat) (w:World) (hm:xs.length<=9223372036854775807)
  (hent:∀ args w,(callFunc F args).run Tryz.prog w=.ok (.enter F args) w) (hI:IntsIn w a xs)
  (hf:∀ W i,Below w.heap.size w W->i<xs.length->Calls Tryz.prog F (#[.int .i64 (xs.getD i 0)]++cb) W fun e w'=>e=.returned (.bool (p (xs.getD i 0)))/\Below W.heap.size W w') :
  Calls Tryz.prog 89 #[.slice a xs.length cap,.func (.func F) #[] cb] w fun e w'=>e=.returned (.bool (xs.any p))/\Below w.heap.size w w':=by
 have H:=Lib.hid (ix_intsF F cb p xs a cap w hm hent hI hf)
 clear hf hI hent
 rw [<- idxF_any]
 generalize idxF p xs=i at *
 go_enter Tryz.func89,Tryz.ntmps89
 go_wp2_with fail
 refine H.out.mono ?_
 rintro e w1 ⟨rfl,hb1⟩
 have HB1:=Lib.hid hb1
 clear hb1 H
 go_wp2
 go_ret
 exact ⟨by first | rfl | simp,HB1.out⟩
end Go.Proofs.YtiihalknffbjpaaGreatDoor
namespace Go.Proofs.YtiihalknffbjpaaGreatDoor.Bd
open Go.RowKit Go.Maps Go.Deep
def badC (x:Int):Bool:=decide (x<0) || decide (1000000<x)
theorem ent_cheap1:∀ args w,(callFunc 90 args).run Tryz.prog w=.ok (.enter 90 args) w:=by intro args w;kernel_rfl
theorem ent_cheap2:∀ args w,(callFunc 91 args).run Tryz.prog w=.ok (.enter 91 args) w:=by intro args w;kernel_rfl
theorem cheap1_c (x:Int) (w:World):Calls Tryz.prog 90 #[.int .i64 x] w fun e w'=>e=.returned (.bool (badC x))/\Below w.heap.size w w':=by
 unfold badC
 by_cases h:x<0
 ·rw [decide_eq_true h]
  go_enter Tryz.func90,Tryz.ntmps90
  go_wp2
  go_ret
  exact ⟨rfl,Below.refl _ _⟩
 ·rw [decide_eq_false h]
  go_enter Tryz.func90,Tryz.ntmps90
  go_wp2
  go_ret
  exact ⟨by simp,Below.refl _ _⟩
def cheapC (costs:List Int):Cost:=fun i b=>if b=true/\i<costs.length then costs.getD i 0 else 0
theorem cheapC_ok {costs:List Int} (h:costs.any badC=false):CostOk (cheapC costs):=by
 intro i b
 unfold cheapC
 split
 ·rename_i q
  have:=List.any_eq_false.1 h (costs.getD i 0) (by rw [List.getD_eq_getElem?_getD,List.getElem?_eq_getElem q.2];exact List.getElem_mem q.2)
  unfold badC at this
  generalize costs.getD i 0=x at this ⊢
  simp at this
  omega
 ·omega
theorem cheap2_c (costs:List Int) (i:Nat) (bb:Bool) (a:Nat) (sa:Option Addr) (cap:Nat) (w:World) (hi:i<64) (ha:w.cell? ⟨a,0,none⟩=some (.slice sa costs.length cap)) (hI:IntsIn w sa costs):Calls Tryz.prog 91 #[.int .i64 (i:Int),.bool bb,.pointer (some ⟨a,0,none⟩)] w fun e w'=>e=.returned (.int .i64 (cheapC costs i bb))/\Below w.heap.size w w':=by
 unfold cheapC
 cases bb with
 | false =>
  rw [if_neg (by simp)]
  clear hI
  go_enter Tryz.func91,Tryz.ntmps91
  go_wp2
  go_ret
  exact ⟨rfl,Below.refl _ _⟩
 | true =>
  by_cases hlt:i<costs.length
  ·rw [if_pos ⟨rfl,hlt⟩]
   obtain ⟨ad,rfl,had,cA⟩:=hI i hlt
   generalize costs.getD i 0=x at *
   have h0:(0:Int)<=(i:Int):=by omega
   have h1:(i:Int)<(costs.length:Int):=by omega
   obtain ⟨ab,ao,asp⟩:=ad
   clear hI had
   go_enter Tryz.func91,Tryz.ntmps91
   go_wp2
   go_ret
   exact ⟨rfl,Below.refl _ _⟩
  ·rw [if_neg (fun e=>hlt e.2)]
   have h1:¬ (i:Int)<(costs.length:Int):=by omega
   clear hI
   go_enter Tryz.func91,Tryz.ntmps91
   go_wp2
   go_ret
   exact ⟨rfl,Below.refl _ _⟩
theorem cheap_cost (costs:List Int) (vars:Nat) (hv:vars<=24) {a:Nat} {sa:Option Addr} {cap:Nat} {W0:World} (ha:a<W0.heap.size) (ca:W0.cell? ⟨a,0,none⟩=some (.slice sa costs.length cap)) (hI:IntsIn W0 sa costs):CostAt W0 91 #[.pointer (some ⟨a,0,none⟩)] (cheapC costs) vars:=fun W j bb hW hj =>
 cheap2_c costs j bb a sa cap W (by omega) ((hW.cell (p:=⟨a,0,none⟩) ha).trans ca) (hI.below hW)
section
variable {B p s b:Nat} {O:Nat->Prop} {vars:Nat} {room:Int} {st:List Nd × Int} {w:World}
def cheapV (vars:Nat) (st:List Nd × Int) (costs:List Int):Value:=if costs.any badC then .tuple #[.int .u64 0,.iface 57 (.int .i64 2)] else (fromW (cheapC costs) vars st.1 st.2 0).best
theorem cheap_c (hsol:SolAt B w p s b O vars room st) (hg:Good vars st.1) (hl:st.1.length<=90000) (h24:vars<=24) (hh:hasB st.1 st.2=true) (costs:List Int) (hm:costs.length<=1000000) (sa:Option Addr) (cap:Nat) (hI:IntsIn w sa costs) :
  Calls Tryz.prog 31 #[.pointer (some ⟨p,0,none⟩),.slice sa costs.length cap] w fun e w'=>e=.returned (cheapV vars st costs)/\Below w.heap.size w w':=by
 have hbA:=Go.Proofs.YtiihalknffbjpaaGreatDoor.below_new w (.cells #[.slice sa costs.length cap] 47)
 have hca:(w.alloc (.cells #[.slice sa costs.length cap] 47)).cell? ⟨w.heap.size,0,none⟩=some (.slice sa costs.length cap):=by simp
 have HWH:=Lib.hid (whole_c (hsol.new hbA) hl hh)
 have HIA:=Lib.hid (hI.below hbA)
 have HCF:Hid (∀ W,Below (w.alloc (.cells #[.slice sa costs.length cap] 47)).heap.size (w.alloc (.cells #[.slice sa costs.length cap] 47)) W->Calls Tryz.prog 89 #[.slice sa costs.length cap,.func (.func 90) #[] #[]] W fun e w'=>e=.returned (.bool (costs.any badC))/\Below W.heap.size W w'):=fun W hW=>cf_intsF 90 #[] badC costs sa cap W (by omega) ent_cheap1 (HIA.out.below hW) (fun W' i _ _=>cheap1_c (costs.getD i 0) W')
 have HBS:Hid (costs.any badC=false->∀ W,Below (w.alloc (.cells #[.slice sa costs.length cap] 47)).heap.size (w.alloc (.cells #[.slice sa costs.length cap] 47)) W->Calls Tryz.prog 84 #[.pointer (some ⟨p,0,none⟩),.func (.func 91) #[] #[.pointer (some ⟨w.heap.size,0,none⟩)]] W fun e w'=>e=.returned (fromW (cheapC costs) vars st.1 st.2 0).best/\Below W.heap.size W w'):=fun hok W hW =>
  best_c (F:=91) (cb:=#[.pointer (some ⟨w.heap.size,0,none⟩)]) (C:=cheapC costs) ((hsol.new hbA).new hW) hg hl h24 ent_cheap2 (cheapC_ok hok) ((cheap_cost costs vars h24 (by simp) hca HIA.out).new hW) hh
 have HBA:=Lib.hid hbA
 have HCA:Hid (∀ W,Below (w.alloc (.cells #[.slice sa costs.length cap] 47)).heap.size (w.alloc (.cells #[.slice sa costs.length cap] 47)) W->W.cell? ⟨w.heap.size,0,none⟩=some (.slice sa costs.length cap)):=fun W hW=>(hW.cell (p:=⟨w.heap.size,0,none⟩) (by simp)).trans hca
 clear hsol hg hh hI HIA hbA hca
 unfold cheapV
 cases hq:costs.any badC with
 | true =>
  rw [if_pos rfl]
  rw [hq] at HCF
  clear HBS
  go_enter Tryz.func31,Tryz.ntmps31
  go_wp2_with fail
  refine HWH.out.mono ?_
  rintro e w2 ⟨rfl,hb2⟩
  clear HWH
  have ca:=HCA.out w2 hb2
  go_wp2_with fail
  refine (HCF.out w2 hb2).mono ?_
  rintro e w3 ⟨rfl,hb3⟩
  have hb23:=hb2.trans (hb3.mono hb2.size)
  have HB3:Hid (Below w.heap.size w w3):=HBA.out.trans (hb23.mono HBA.out.size)
  clear ca HCF HCA hb2 hb3
  clear hb23
  go_wp2
  go_ret2
  exact ⟨rfl,HB3.out⟩
 | false =>
  rw [if_neg (by simp)]
  have HBE:=Lib.hid (HBS.out hq)
  rw [hq] at HCF
  clear HBS hq
  generalize fromW (cheapC costs) vars st.1 st.2 0=R at *
  obtain ⟨ri,rc,rb⟩:=R
  unfold Wy.best at *
  go_enter Tryz.func31,Tryz.ntmps31
  go_wp2_with fail
  refine HWH.out.mono ?_
  rintro e w2 ⟨rfl,hb2⟩
  clear HWH
  have ca:=HCA.out w2 hb2
  go_wp2_with fail
  refine (HCF.out w2 hb2).mono ?_
  rintro e w3 ⟨rfl,hb3⟩
  have hb23:=hb2.trans (hb3.mono hb2.size)
  have HB3:Hid (Below w.heap.size w w3):=HBA.out.trans (hb23.mono HBA.out.size)
  clear ca HCF HCA hb2 hb3
  go_wp2_with fail
  refine (HBE.out w3 hb23).mono ?_
  rintro e w4 ⟨rfl,hb4⟩
  have HB4:Hid (Below w.heap.size w w4):=HB3.out.trans (hb4.mono HB3.out.size)
  clear hb4 HBE hb23
  cases rb with
  | false =>
   go_wp2
   go_ret2
   exact ⟨rfl,HB4.out⟩
  | true =>
   go_wp2
   go_ret2
   exact ⟨rfl,HB4.out⟩
end
end Go.Proofs.YtiihalknffbjpaaGreatDoor.Bd
