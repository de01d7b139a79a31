/- space: below, of a node; cheapest. -/
import Derived.Test.YtlmmkbnjhilbdaaGreatDoorWyBet
namespace Go.Proofs.YtlmmkbnjhilbdaaGreatDoor
set_option maxHeartbeats 4000000
set_option maxRecDepth 100000
namespace Bd
open Go.RowKit Go.Maps
def Wy.dat(x:Wy):DataW Unit:=.agg [.lit (.int .i64 x.items),.lit (.int .i64 x.cost),.lit (.bool x.can)]
theorem Wy.dat_inj{x y:Wy}(h:x.dat=y.dat):x=y:=by
 obtain⟨a,b,c⟩:=x;obtain⟨d,e,f⟩:=y;simp[Wy.dat] at h ⊢;obtain⟨h1,h2,h3⟩:=h;exact⟨by omega,h2,h3⟩
def ZQ(v:Value):Option (DataW Unit × List MemPlace) :=
 match v with
 |.agg cs =>
  match cs.toList with
  |[.int .u64 a,.int .i64 b,.bool c]=>if 0<=a then some (Wy.dat ⟨a.toNat,b,c⟩,[]) else none
  |_=>none
 |_=>none
theorem Kb(x:Wy):ZQ x.val=some (x.dat,[]):=by
 unfold ZQ Wy.val;simp
theorem zd1{v:Value}{x:Wy}{ps:List MemPlace}(h:ZQ v=some (x.dat,ps)):v=x.val:=by
 unfold ZQ at h;split at h
 ·rename_i cs;split at h
  ·rename_i a b c e;split at h
   ·rename_i h0;simp only[Option.some.injEq,Prod.mk.injEq] at h;rw[<-Wy.dat_inj h.1];have:cs=#[.int .u64 a,.int .i64 b,.bool c]:=by cases cs;simp at e;rw[e]
    rw[this];unfold Wy.val;simp only[Int.toNat_of_nonneg h0]
   ·cases h
  ·cases h
 ·cases h
theorem zdR(w:World):(zeroValue 136).run Tryz.prog w=.ok (Wy.val ⟨0,0,false⟩) w:=by kernel_rfl
def Yg(D:DataW Unit)(L:List (Int × Wy)):Prop:=Rep I64 (fun x=>Lit.int .i64 x) Wy.dat D L
section
variable {w:World} {bm n:Nat} {D:DataW Unit} {L:List (Int × Wy)}
theorem zhC(hD:w.ownsMap Tryz.prog 3 ZQ bm n D)(hR:Yg D L){p:Int × Wy}(hp:p∈L) :
  (Instr.lookup 189 (.map (some bm)) (.int .i64 p.1) true).run Tryz.prog w=.ok (.tuple #[p.2.val,.bool true]) w:=by
 obtain⟨v,ps,hrun,hv⟩:=hD.look_ok QK Tryz.underlying189 (zdR w) (Kb ⟨0,0,false⟩) (Yb (Rep.oks hR p hp));rw[Rep.at' hR p hp] at hv;rw[(Rep.has hR p.1 (Rep.oks hR p hp)).2 (List.mem_map_of_mem hp),zd1 hv] at hrun;exact hrun
theorem zgw(hD:w.ownsMap Tryz.prog 3 ZQ bm n D)(hR:Yg D L){a:Int}(ha:I64 a)(hn:a∉L.map Prod.fst) :
  (Instr.lookup 189 (.map (some bm)) (.int .i64 a) true).run Tryz.prog w=.ok (.tuple #[Wy.val ⟨0,0,false⟩,.bool false]) w:=by
 obtain⟨v,ps,hrun,hv⟩:=hD.look_ok QK Tryz.underlying189 (zdR w) (Kb ⟨0,0,false⟩) (Yb ha);have hh:=Rep.not hR ha hn;rw[atKey_of_not_has hh] at hv;rw[hh,zd1 hv] at hrun;exact hrun
theorem zlw(hD:w.ownsMap Tryz.prog 3 ZQ bm L.length D)(hR:Yg D L)(hl:L.length<1000000){a:Int}(ha:I64 a)(hn:a∉L.map Prod.fst)(x:Wy) :
  ∃w' D',(Instr.mapUpdate 189 (.map (some bm)) (.int .i64 a) x.val).run Tryz.prog w=.ok () w'/\w'.ownsMap Tryz.prog 3 ZQ bm (L++[(a,x)]).length D'/\Yg D' (L++[(a,x)])/\ze (fun k=>k=bm) w w':=by
 obtain⟨w',hrun,h1,h2⟩:=hD.update QK Tryz.underlying189 (by unfold maxLen;omega) (Yb ha) (Kb x);have hR':Yg (D.put (.int .i64 a) x.dat) (L++[(a,x)]):=Rep.put hR (fun a b _ _ e=>by injection e) (fun _=>trivial) ha hn x;exact⟨w',_,hrun,hR'.size▸Z2 h1,hR',ze.of_grown h2 (fun i h=>by cases h;rfl)⟩
end
structure qr(C:qE)(w:World)(dk vars:Nat)(ns:List Nd)(L:List (Int × Wy)):Prop where
 hmap:∃D,w.ownsMap Tryz.prog 3 ZQ dk L.length D/\Yg D L
 keys:∀p∈L,zb ns p.1≠24
 vals:∀p∈L,p.2=yq C vars ns p.1
 nodup:(L.map Prod.fst).Nodup
section
variable {C:qE} {w w':World} {dk vars:Nat} {ns:List Nd} {L:List (Int × Wy)}
theorem qr.lt(h:qr C w dk vars ns L):dk<w.heap.size:=by obtain⟨D,hD,-⟩:=h.hmap;exact hD.lt
theorem qr.kept{S:Nat->Prop}(h:qr C w dk vars ns L)(hk:ze S w w')(hn:¬S dk):qr C w' dk vars ns L:=by
 obtain⟨D,hD,hR⟩:=h.hmap;exact⟨⟨D,ZV hD hk hn,hR⟩,h.keys,h.vals,h.nodup⟩
theorem qr.new(h:qr C w dk vars ns L)(hb:zB w w'):qr C w' dk vars ns L:=h.kept (ze.of_below hb (fun _=>False)) (fun h=>h)
theorem qr.len(h:qr C w dk vars ns L):L.length<=ns.length:=by
 have h1:(L.map fun p=>pl p.1).length<=ns.length:=by
  refine Qv _ _ ?_ ?_
  ·have:=h.nodup;rw[List.nodup_iff_pairwise_ne,List.pairwise_map] at this ⊢;refine List.Pairwise.imp_of_mem ?_ this;intro a b ha hb hne e;have h1:=yU (h.keys a ha);have h2:=yU (h.keys b hb);apply hne;rw[h1.2.2.2,h2.2.2.2,e]
  ·intro x hx;obtain⟨p,hp,rfl⟩:=List.mem_map.1 hx;exact(yU (h.keys p hp)).2.1
 simpa using h1
end
end Bd
namespace Bd
open Go.RowKit Go.Maps Go.Deep
structure Yh(W0:World)(B p s b:Nat)(O:Nat->Prop)(vars:Nat)(room:Int)(st:List Nd × Int)(F:FuncId)(cb:Array Value)(C:qE)(dk:Nat):Prop where
 sol:Zp B W0 p s b O vars room st
 good:zu vars st.1
 len:st.1.length<=90000
 v24:vars<=24
 ent:∀args w,(callFunc F args).run Tryz.prog w=.ok (.enter F args) w
 cok:Q7 C
 cat:KI W0 F cb C vars
 dkl:W0.heap.size<=dk
def Q8(C:qE)(dk vars:Nat)(ns:List Nd)(r:Wy)(W:World)(e:Ending)(w':World):Prop:=e=.returned r.val/\∃L',qr C w' dk vars ns L'/\ze (fun k=>k=dk) W w'
abbrev wkV(p:Nat)(F:FuncId)(cb:Array Value)(dk:Nat):Value:=.agg #[.pointer (some ⟨p,0,none⟩),.func (.func F) #[] cb,.map (some dk)]
section
variable {W0:World} {B p s b:Nat} {O:Nat->Prop} {vars:Nat} {room:Int} {st:List Nd × Int} {F:FuncId} {cb:Array Value} {C:qE} {dk:Nat}
def zb4(W0:World)(p vars:Nat)(ns:List Nd)(F:FuncId)(cb:Array Value)(C:qE)(dk d:Nat):Prop :=
 ∀(h:Int) (L:List (Int × Wy)) (W:World),zB W0 W->qr C W dk vars ns L->zj ns h=true->24<=zb ns h+d->zC 150 #[wkV p F cb dk,.int .i64 h] W (Q8 C dk vars ns (yq C vars ns h) W)
def zdd(W0:World)(p vars:Nat)(ns:List Nd)(F:FuncId)(cb:Array Value)(C:qE)(dk d:Nat):Prop :=
 ∀(h:Int) (v:Nat) (L:List (Int × Wy)) (W:World),zB W0 W->qr C W dk vars ns L->zj ns h=true->(v:Int)<=zb ns h->v<=vars->24<=zb ns h+d->zC 102 #[wkV p F cb dk,.int .i64 v,.int .i64 h] W (Q8 C dk vars ns (qh C vars ns h v) W)
theorem _root_.Go.Proofs.YtlmmkbnjhilbdaaGreatDoor.Blk.keptB{S:Nat->Prop}{w w':World}{q:Nat}{t:TypeId}{cs:Array Value}(h:Blk w q t cs)(hk:ze S w w')(hn:¬S q):Blk w' q t cs:=(hk.block q h.lt hn).trans h
structure FrS(C:qE)(W0 W:World)(p dk vars:Nat)(ns:List Nd)(F:FuncId)(cb:Array Value)(q:Nat)(x:Wy)(X:World):Prop where
 w0:Blk X W.heap.size 191 #[.pointer (some ⟨p,0,none⟩),.func (.func F) #[] cb,.map (some dk)]
 w1:Blk X (W.heap.size+1) 136 #[.int .u64 0,.int .i64 0,.bool false]
 w2:Blk X q 136 #[.int .u64 x.items,.int .i64 x.cost,.bool x.can]
 q1:W.heap.size+1<q
 dq:dk≠q
 bel:zB W0 X
 way:∃L',qr C X dk vars ns L'
 kep:ze (fun k=>k=dk) W X
theorem FrS.below{W X X':World}{ns:List Nd}{q:Nat}{x:Wy}(h:FrS C W0 W p dk vars ns F cb q x X)(hb:zB X X'):FrS C W0 W p dk vars ns F cb q x X':=by
 obtain⟨L',hL⟩:=h.way;exact⟨h.w0.below hb h.w0.lt,h.w1.below hb h.w1.lt,h.w2.below hb h.w2.lt,h.q1,h.dq,zT h.bel hb,⟨L',hL.new hb⟩,h.kep.andThen (ze.of_below hb (fun _=>False)) (fun _ h _=>h.elim)⟩
theorem FrS.put{W X:World}{ns:List Nd}{q:Nat}{x:Wy}(h:FrS C W0 W p dk vars ns F cb q x X)(hW:W0.heap.size<=W.heap.size)(y:Wy):FrS C W0 W p dk vars ns F cb q y (((X.setCell ⟨q,0,none⟩ (.int .u64 y.items)).setCell ⟨q,1,none⟩ (.int .i64 y.cost)).setCell ⟨q,2,none⟩ (.bool y.can)):=by
 obtain⟨L',hL⟩:=h.way;have h1:=h.q1;have h2:=h.dq;have hk:ze (fun k=>k=q) X (((X.setCell ⟨q,0,none⟩ (.int .u64 y.items)).setCell ⟨q,1,none⟩ (.int .i64 y.cost)).setCell ⟨q,2,none⟩ (.bool y.can)) :=
  ((ze.setCell (S:=fun k=>k=q) X ⟨q,0,none⟩ _ rfl).andThen (ze.setCell (S:=fun k=>k=q) _ ⟨q,1,none⟩ _ rfl) (fun _ h _=>h)).andThen (ze.setCell (S:=fun k=>k=q) _ ⟨q,2,none⟩ _ rfl) (fun _ h _=>h)
 exact ⟨((h.w0.other (by omega)).other (by omega)).other (by omega),((h.w1.other (by omega)).other (by omega)).other (by omega),set3 h.w2 _ _ _,h1,h2,
  ((h.bel.setCell (p:=⟨q,0,none⟩) (by show W0.heap.size<=q;omega) _).setCell (p:=⟨q,1,none⟩) (by show W0.heap.size<=q;omega) _).setCell (p:=⟨q,2,none⟩) (by show W0.heap.size<=q;omega) _,
  ⟨L',hL.kept hk h2⟩,h.kep.andThen hk (fun i e hi=>by omega)⟩
theorem zdy(cx:Yh W0 B p s b O vars room st F cb C dk){d:Nat}(ih:zb4 W0 p vars st.1 F cb C dk d):zdd W0 p vars st.1 F cb C dk d:=by
 intro h v L W hW hM hh hvt hvv hd;have hi64:=yS hh (by have:=cx.len;omega);have hr:=cx.good.ranked;have h24:=qi hr h;have hv24:=cx.v24;have hdkW:=hM.lt;have hW0:=hW.size;have k0:=(Blk.new W 191 #[.pointer (some ⟨p,0,none⟩),.func (.func F) #[] cb,.map (some dk)]).alloc (.cells #[.int .u64 0,.int .i64 0,.bool false] 136);have k1:=Blk.new (W.alloc (.cells #[.pointer (some ⟨p,0,none⟩),.func (.func F) #[] cb,.map (some dk)] 191)) 136 #[.int .u64 0,.int .i64 0,.bool false];simp only[World.size_alloc] at k1;have hbA:zB W ((W.alloc (.cells #[.pointer (some ⟨p,0,none⟩),.func (.func F) #[] cb,.map (some dk)] 191)).alloc (.cells #[.int .u64 0,.int .i64 0,.bool false] 136)):=((Below.refl _ W).alloc zN _).alloc (by simp only[World.size_alloc];omega) _;have hszA:((W.alloc (.cells #[.pointer (some ⟨p,0,none⟩),.func (.func F) #[] cb,.map (some dk)] 191)).alloc (.cells #[.int .u64 0,.int .i64 0,.bool false] 136)).heap.size=W.heap.size+1+1:=by simp only[World.size_alloc]
 have HCX:=zH cx;have HTN:Hid ((zV vars st.1 h:Int)=min (zb st.1 h) (vars:Int)):=by show _=_;unfold zV;omega
 have htn:v<=zV vars st.1 h:=by unfold zV;omega
 have htv:zV vars st.1 h<=vars:=by unfold zV;omega
 have HBL:Hid (yq C vars st.1 h=qh C vars st.1 h (zV vars st.1 h)):=rfl;have HGAP:Hid (∀k,k<zV vars st.1 h->qh C vars st.1 h k=xG C k (qh C vars st.1 h (k+1)) (qh C vars st.1 h (k+1))):=fun k hk=>zlz cx.good hk;have HOK:Hid (∀k,k<=vars->(0<=(qh C vars st.1 h k).cost/\(qh C vars st.1 h k).cost<=24000000)/\(qh C vars st.1 h k).items<2^24):=fun k hk=>by
  have:=zbk (ns:=st.1) cx.cok hv24 h k;exact⟨⟨this.1,this.2.1⟩,Nat.lt_of_lt_of_le (this.2.2 hk) (Nat.pow_le_pow_right (by omega) hv24)⟩
 have HCB:Hid (zC 150 #[wkV p F cb dk,.int .i64 h] ((W.alloc (.cells #[.pointer (some ⟨p,0,none⟩),.func (.func F) #[] cb,.map (some dk)] 191)).alloc (.cells #[.int .u64 0,.int .i64 0,.bool false] 136)) (Q8 C dk vars st.1 (yq C vars st.1 h) ((W.alloc (.cells #[.pointer (some ⟨p,0,none⟩),.func (.func F) #[] cb,.map (some dk)] 191)).alloc (.cells #[.int .u64 0,.int .i64 0,.bool false] 136)))):=ih h L _ (hW.trans (hbA.mono hW0)) (hM.new hbA) hh hd;rw[HBL.out] at HCB;generalize htp:zV vars st.1 h=tp at *;clear HBL htp;have HWW:=zH hW;unfold wkV;unfold wkV at HCB;go_enter Tryz.func102,Tryz.ntmps102;go_upto_region 1 with fail;generalize hWA:(W.alloc (.cells #[.pointer (some ⟨p,0,none⟩),.func (.func F) #[] cb,.map (some dk)] 191)).alloc (.cells #[.int .u64 0,.int .i64 0,.bool false] 136)=WA at *;have c0:=k0.cell 0;have c1:=k0.cell 1;have c2:=k0.cell 2;go_wp2_with fail;refine HCB.out.mono ?_;rintro e w1 ⟨rfl,L1,hM1,hk1⟩;obtain⟨X,hX⟩:∃X,qh C vars st.1 h tp=X:=⟨_,rfl⟩;rw[hX];unfold Wy.val;have hw1:=hk1.size;have ndk:dk≠W.heap.size:=by omega
 have ndk1:dk≠W.heap.size+1:=by omega
 have hbB:zB w1 (w1.alloc (.cells #[.int .u64 X.items,.int .i64 X.cost,.bool X.can] 136)):=Go.Proofs.YtlmmkbnjhilbdaaGreatDoor.below_new w1 _;have kp1:∀{q:Nat} {t:TypeId} {cs:Array Value},Blk WA q t cs->dk≠q->Blk w1 q t cs:=fun {q t cs} hB hne=>hB.keptB hk1 (fun e=>hne e.symm);have hFS:FrS C W0 W p dk vars st.1 F cb w1.heap.size X (w1.alloc (.cells #[.int .u64 X.items,.int .i64 X.cost,.bool X.can] 136)):=by
  have hA1:zB W0 WA:=HWW.out.trans (hbA.mono hW0);have hd0:=HCX.out.dkl;exact⟨(kp1 k0 ndk).alloc _,(kp1 k1 ndk1).alloc _,Blk.new _ _ _,by omega,by omega,(hA1.trans (hk1.below (by omega) (fun i e=>by omega))).trans (hbB.mono (by omega)),⟨L1,hM1.new hbB⟩,((ze.of_below hbA (fun k=>k=dk)).andThen hk1 (fun _ h _=>h)).andThen (ze.of_below hbB (fun _=>False)) (fun _ h _=>h.elim)⟩
 have HFS0:=zH hFS;have HX:=zH hX;clear HCB hM1 hk1 kp1 k0 k1 hbA hbB c0 c1 c2 hFS hX hM hWA;go_upto_region 2 with fail;generalize hq:w1.heap.size=q at *;generalize w1.alloc (.cells #[.int .u64 X.items,.int .i64 X.cost,.bool X.can] 136)=W2 at *;have hsol2:=HCX.out.sol.new HFS0.out.bel;have c0:_=some (Value.pointer (some ⟨p,0,none⟩)):=HFS0.out.w0.cell 0;have c1:_=some (Value.pointer (some ⟨s,0,none⟩)):=hsol2.blk.cell 0;have c2:W2.cell? ⟨s,0,none⟩=some (.pointer (some ⟨b,0,none⟩)):=hsol2.space.c0;have HTQ:Hid (∀n,zC 65 #[.pointer (some ⟨b,0,none⟩),.int .i64 h] (W2.drewN n) fun e w'=>e=.returned (.int .i64 (zb st.1 h))/\w'=W2.drewN n):=fun n=>(zbM (hsol2.space.new (Zw _ W2 n)) h hi64 (by have:=HCX.out.len;omega)).mono fun e w' ⟨h1,h2⟩=>⟨h1,h2.symm⟩;have HVQ:Hid (∀n,zC 56 #[.pointer (some ⟨s,0,none⟩)] (W2.drewN n) fun e w'=>e=.returned (.int .i64 vars)/\w'=W2.drewN n):=fun n=>(JD (hsol2.space.new (Zw _ W2 n))).mono fun e w' ⟨h1,h2⟩=>⟨h1,h2.symm⟩;clear hsol2;have hmin:min (zb st.1 h) (vars:Int)-1=(tp:Int)-1:=by have:=HTN.out;omega
 go_quiet (first|(go_at_call 65;refine Calls.quiet_of_same (HTQ.out _))|(go_at_call 56;refine Calls.quiet_of_same (HVQ.out _)));have HFS1:=zH (HFS0.out.below (Zw _ W2 nq));clear c0 c1 c2 HTQ HVQ HFS0;generalize W2.drewN nq=W3 at *;rw[<-HX.out] at HFS1;clear HX;go_wp2_with fail;go_loopw [8] (fun i wr=>∃k:Nat,i=.int .i64 ((k:Int)-1)/\v<=k/\k<=tp/\FrS C W0 W p dk vars st.1 F cb q (qh C vars st.1 h k) wr) (fun i _=>(intOf i+1).toNat)
 case atStart=>exact⟨tp,by first|rfl|go_num,htn,Nat.le_refl _,HFS1.out⟩
 case round =>
  clear HFS1;obtain⟨k,rfl,hvk,hkt,hfs⟩:=hrel;have hokk:=HOK.out k (by omega)
  by_cases hke:k=v
  ·subst hke;obtain⟨X,hX⟩:∃X,qh C vars st.1 h k=X:=⟨_,rfl⟩;rw[hX] at hfs;have e0:=hfs.w2.cell 0;have e1:=hfs.w2.cell 1;have e2:=hfs.w2.cell 2;have z0:=hfs.w1.cell 0;have z1:=hfs.w1.cell 1;have z2:=hfs.w1.cell 2;have y0:=hfs.w1.frozen 0;have y1:=hfs.w1.frozen 1;have y2:=hfs.w1.frozen 2;have hres:=set3 hfs.w1 (.int .u64 X.items) (.int .i64 X.cost) (.bool X.can);have r0:=hres.cell 0;have r1:=hres.cell 1;have r2:=hres.cell 2;have HFIN:Hid (∃L',qr C (((wr.setCell ⟨W.heap.size+1,0,none⟩ (.int .u64 X.items)).setCell ⟨W.heap.size+1,1,none⟩ (.int .i64 X.cost)).setCell ⟨W.heap.size+1,2,none⟩ (.bool X.can)) dk vars st.1 L'/\ze (fun k=>k=dk) W (((wr.setCell ⟨W.heap.size+1,0,none⟩ (.int .u64 X.items)).setCell ⟨W.heap.size+1,1,none⟩ (.int .i64 X.cost)).setCell ⟨W.heap.size+1,2,none⟩ (.bool X.can))):=by
    obtain⟨L',hL⟩:=hfs.way;have hk:ze (fun k=>k=W.heap.size+1) wr (((wr.setCell ⟨W.heap.size+1,0,none⟩ (.int .u64 X.items)).setCell ⟨W.heap.size+1,1,none⟩ (.int .i64 X.cost)).setCell ⟨W.heap.size+1,2,none⟩ (.bool X.can)) :=
     ((ze.setCell (S:=fun k=>k=W.heap.size+1) wr ⟨W.heap.size+1,0,none⟩ _ rfl).andThen (ze.setCell (S:=fun k=>k=W.heap.size+1) _ ⟨W.heap.size+1,1,none⟩ _ rfl) (fun _ h _=>h)).andThen (ze.setCell (S:=fun k=>k=W.heap.size+1) _ ⟨W.heap.size+1,2,none⟩ _ rfl) (fun _ h _=>h)
    exact⟨L',hL.kept hk ndk1,hfs.kep.andThen hk (fun i e hi=>by omega)⟩
   have HX:=zH hX;clear hfs hres hX;go_wp2;refine bodyPost_ret (v:=.agg #[.int .u64 X.items,.int .i64 X.cost,.bool X.can]) (by simp[results,Tryz.f102,go_sem,r0,r1,r2]) rfl ?_;exact⟨by rw[HX.out];rfl,HFIN.out⟩
  ·obtain⟨j,rfl⟩:∃j,k=j+1:=⟨k-1,by omega⟩;have hgap:=HGAP.out j (by omega);obtain⟨X,hX⟩:∃X,qh C vars st.1 h (j+1)=X:=⟨_,rfl⟩;rw[hX] at hfs hgap hokk;have HBT:Hid (zC 151 #[.agg #[.pointer (some ⟨p,0,none⟩),.func (.func F) #[] cb,.map (some dk)],.int .i64 j,.agg #[.int .u64 X.items,.int .i64 X.cost,.bool X.can],.agg #[.int .u64 X.items,.int .i64 X.cost,.bool X.can]] wr fun e w'=>e=.returned (xG C j X X).val/\zB wr w'):=ze8 F cb C vars hv24 HCX.out.ent HCX.out.cok HCX.out.cat hfs.bel p dk j (by omega) X X hokk.1 hokk.1 hokk.2;obtain⟨Y,hY⟩:∃Y,xG C j X X=Y:=⟨_,rfl⟩;rw[hY] at HBT hgap;unfold Wy.val at HBT;have e0:=hfs.w2.cell 0;have e1:=hfs.w2.cell 1;have e2:=hfs.w2.cell 2;have a0:=hfs.w0.cell 0;have a1:=hfs.w0.cell 1;have a2:=hfs.w0.cell 2;have hjw:((j+1:Nat):Int)-1=(j:Int):=by omega
   rw[hjw];have hj1:(v:Int)<=(j:Int):=by omega
   have hj0:(0:Int)<=(j:Int):=by omega
   have HFS:=zH hfs;have HGP:=zH hgap;clear hfs hgap hX hY hjw hokk;go_wp2_with fail;refine HBT.out.mono ?_;rintro e w5 ⟨rfl,hb5⟩;have hf5:=HFS.out.below hb5;have f0:=hf5.w2.cell 0;have f1:=hf5.w2.cell 1;have f2:=hf5.w2.cell 2;have g0:=hf5.w2.frozen 0;have g1:=hf5.w2.frozen 1;have g2:=hf5.w2.frozen 2;have HFN:Hid (FrS C W0 W p dk vars st.1 F cb q (qh C vars st.1 h j) (((w5.setCell ⟨q,0,none⟩ (.int .u64 Y.items)).setCell ⟨q,1,none⟩ (.int .i64 Y.cost)).setCell ⟨q,2,none⟩ (.bool Y.can))):=by
    show FrS _ _ _ _ _ _ _ _ _ _ _ _;rw[HGP.out];exact hf5.put hW0 Y
   clear hf5 hb5 HBT HFS e0 e1 e2 a0 a1 a2;go_wp2;go_roundw
   case rel=>exact⟨j,by go_num,by omega,by omega,HFN.out⟩
   case measure=>first|(simp[intOf];done)|(simp[intOf];omega)
end
end Bd
namespace Bd
open Go.RowKit Go.Maps Go.Deep
theorem zmD{C:qE}{w:World}{dk vars:Nat}{ns:List Nd}{L:List (Int × Wy)}(hD:qr C w dk vars ns L){a:Int}(ha:I64 a)(ht:zb ns a≠24)(hl:ns.length<=90000) :
  ∃w' L',(Instr.mapUpdate 189 (.map (some dk)) (.int .i64 a) (yq C vars ns a).val).run Tryz.prog w=.ok () w'/\qr C w' dk vars ns L'/\ze (fun j=>j=dk) w w':=by
 have hlen:=hD.len;obtain⟨D,hDm,hR⟩:=hD.hmap
 by_cases hm:a∈L.map Prod.fst
 ·obtain⟨w',hrun,h1,h2⟩:=hDm.update QK Tryz.underlying189 (by unfold maxLen;omega) (Yb ha) (Kb (yq C vars ns a));have hk:ze (fun k=>k=dk) w w':=ze.of_grown h2 (fun i h=>by cases h;rfl);have hR':Yg (D.put (.int .i64 a) (yq C vars ns a).dat) (L.map fun q=>if q.1=a then (q.1,yq C vars ns a) else q):=Rep.put_over hR (fun a b _ _ e=>by injection e) (fun _=>trivial) _ hm;have hfst:(L.map fun q=>if q.1=a then (q.1,yq C vars ns a) else q).map Prod.fst=L.map Prod.fst:=by
   rw[List.map_map];apply List.map_congr_left;intro q _;simp only[Function.comp];split<;>rfl
  refine⟨w',_,hrun,⟨⟨_,hR'.size▸Z2 h1,hR'⟩,fun p hp=>?_,fun p hp=>?_,by rw[hfst];exact hD.nodup⟩,hk⟩
  ·obtain⟨q,hq,rfl⟩:=List.mem_map.1 hp;split
   ·exact hD.keys q hq
   ·exact hD.keys q hq
  ·obtain⟨q,hq,rfl⟩:=List.mem_map.1 hp;split
   ·rename_i e;rw[e]
   ·exact hD.vals q hq
 ·obtain⟨w',D',hrun,h1,h2,h3⟩:=zlw hDm hR (by omega) ha hm (yq C vars ns a);refine⟨w',_,hrun,⟨⟨D',h1,h2⟩,fun p hp=>?_,fun p hp=>?_,?_⟩,h3⟩
  ·rcases List.mem_append.1 hp with hp|hp
   ·exact hD.keys p hp
   ·rw[List.mem_singleton] at hp;subst hp;exact ht
  ·rcases List.mem_append.1 hp with hp|hp
   ·exact hD.vals p hp
   ·rw[List.mem_singleton] at hp;subst hp;rfl
  ·rw[List.map_append,List.nodup_append];refine⟨hD.nodup,by simp,fun x hx y hy e=>?_⟩;simp at hy;subst hy;exact hm (e▸hx)
section
variable {W0:World} {B p s b:Nat} {O:Nat->Prop} {vars:Nat} {room:Int} {st:List Nd × Int} {F:FuncId} {cb:Array Value} {C:qE} {dk:Nat}
structure NS(C:qE)(W0 W:World)(p dk vars:Nat)(ns:List Nd)(F:FuncId)(cb:Array Value)(nb:Nat)(gv gl gh:Int)(X:World):Prop where
 w0:Blk X W.heap.size 191 #[.pointer (some ⟨p,0,none⟩),.func (.func F) #[] cb,.map (some dk)]
 w1:Blk X (W.heap.size+1) 136 #[.int .u64 0,.int .i64 0,.bool false]
 w2:Blk X nb 194 #[.int .i64 gv,.int .i64 gl,.int .i64 gh]
 q1:W.heap.size+1<nb
 dq:dk<W.heap.size
 bel:zB W0 X
 way:∃L',qr C X dk vars ns L'
 kep:ze (fun k=>k=dk) W X
variable {W X X':World} {ns:List Nd} {nb:Nat} {gv gl gh:Int}
theorem NS.kept(h:NS C W0 W p dk vars ns F cb nb gv gl gh X)(hd:W0.heap.size<=dk)(hk:ze (fun k=>k=dk) X X')(hw:∃L',qr C X' dk vars ns L'):NS C W0 W p dk vars ns F cb nb gv gl gh X':=by
 have h1:=h.q1;have h2:=h.dq;exact⟨h.w0.keptB hk (by omega),h.w1.keptB hk (by omega),h.w2.keptB hk (by omega),h1,h2,h.bel.trans (hk.below h.bel.size (fun i e=>by omega)),hw,h.kep.andThen hk (fun _ h _=>h)⟩
theorem NS.below(h:NS C W0 W p dk vars ns F cb nb gv gl gh X)(hb:zB X X'):NS C W0 W p dk vars ns F cb nb gv gl gh X':=by
 obtain⟨L',hL⟩:=h.way;exact⟨h.w0.below hb h.w0.lt,h.w1.below hb h.w1.lt,h.w2.below hb h.w2.lt,h.q1,h.dq,zT h.bel hb,⟨L',hL.new hb⟩,h.kep.andThen (ze.of_below hb (fun _=>False)) (fun _ h _=>h.elim)⟩
theorem NS.sc(h:NS C W0 W p dk vars ns F cb nb gv gl gh X):X.cell? ⟨W.heap.size,0,none⟩=some (.pointer (some ⟨p,0,none⟩))/\X.cell? ⟨W.heap.size,1,none⟩=some (.func (.func F) #[] cb)/\X.cell? ⟨W.heap.size,2,none⟩=some (.map (some dk))/\X.cell? ⟨nb,0,none⟩=some (.int .i64 gv)/\X.cell? ⟨nb,1,none⟩=some (.int .i64 gl)/\X.cell? ⟨nb,2,none⟩=some (.int .i64 gh) :=
 ⟨h.w0.cell 0,h.w0.cell 1,h.w0.cell 2,h.w2.cell 0,h.w2.cell 1,h.w2.cell 2⟩
theorem NS.put(h:NS C W0 W p dk vars ns F cb nb gv gl gh X)(hW:W0.heap.size<=W.heap.size){q:Nat}(hq:W.heap.size+1<q)(hqn:q≠nb)(x y z:Value):NS C W0 W p dk vars ns F cb nb gv gl gh (((X.setCell ⟨q,0,none⟩ x).setCell ⟨q,1,none⟩ y).setCell ⟨q,2,none⟩ z):=by
 obtain⟨L',hL⟩:=h.way;have h2:=h.dq;have hk:ze (fun k=>k=q) X (((X.setCell ⟨q,0,none⟩ x).setCell ⟨q,1,none⟩ y).setCell ⟨q,2,none⟩ z) :=
  ((ze.setCell (S:=fun k=>k=q) X ⟨q,0,none⟩ _ rfl).andThen (ze.setCell (S:=fun k=>k=q) _ ⟨q,1,none⟩ _ rfl) (fun _ h _=>h)).andThen (ze.setCell (S:=fun k=>k=q) _ ⟨q,2,none⟩ _ rfl) (fun _ h _=>h)
 exact⟨h.w0.keptB hk (by omega),h.w1.keptB hk (by omega),h.w2.keptB hk (fun e=>hqn e.symm),h.q1,h2,h.bel.trans (hk.below h.bel.size (fun i e=>by omega)),⟨L',hL.kept hk (by omega)⟩,h.kep.andThen hk (fun i e hi=>by omega)⟩
theorem JR(x:Wy)(hdq:dk<W.heap.size)(way:∃L',qr C X dk vars ns L')(kep:ze (fun k=>k=dk) W X) :
  ∃L',qr C (((X.setCell ⟨W.heap.size+1,0,none⟩ (.int .u64 x.items)).setCell ⟨W.heap.size+1,1,none⟩ (.int .i64 x.cost)).setCell ⟨W.heap.size+1,2,none⟩ (.bool x.can)) dk vars ns L'/\ze (fun k=>k=dk) W (((X.setCell ⟨W.heap.size+1,0,none⟩ (.int .u64 x.items)).setCell ⟨W.heap.size+1,1,none⟩ (.int .i64 x.cost)).setCell ⟨W.heap.size+1,2,none⟩ (.bool x.can)):=by
 obtain⟨L',hL⟩:=way;have hk:ze (fun k=>k=W.heap.size+1) X (((X.setCell ⟨W.heap.size+1,0,none⟩ (.int .u64 x.items)).setCell ⟨W.heap.size+1,1,none⟩ (.int .i64 x.cost)).setCell ⟨W.heap.size+1,2,none⟩ (.bool x.can)) :=
  ((ze.setCell (S:=fun k=>k=W.heap.size+1) X ⟨W.heap.size+1,0,none⟩ _ rfl).andThen (ze.setCell (S:=fun k=>k=W.heap.size+1) _ ⟨W.heap.size+1,1,none⟩ _ rfl) (fun _ h _=>h)).andThen (ze.setCell (S:=fun k=>k=W.heap.size+1) _ ⟨W.heap.size+1,2,none⟩ _ rfl) (fun _ h _=>h)
 exact⟨L',hL.kept hk (by omega),kep.andThen hk (fun i e hi=>by omega)⟩
theorem za2{h:Int}{L:List (Int × Wy)}{W:World}(hW:zB W0 W)(hM:qr C W dk vars st.1 L){w1:World}(hb1:Below ((W.alloc (.cells #[.pointer (some ⟨p,0,none⟩),.func (.func F) #[] cb,.map (some dk)] 191)).alloc (.cells #[.int .u64 0,.int .i64 0,.bool false] 136)).heap.size ((W.alloc (.cells #[.pointer (some ⟨p,0,none⟩),.func (.func F) #[] cb,.map (some dk)] 191)).alloc (.cells #[.int .u64 0,.int .i64 0,.bool false] 136)) w1) :
  NS C W0 W p dk vars st.1 F cb w1.heap.size (zl st.1 h).v (zl st.1 h).l (zl st.1 h).h (w1.alloc (.cells #[.int .i64 (zl st.1 h).v,.int .i64 (zl st.1 h).l,.int .i64 (zl st.1 h).h] 194)):=by
 have k0:=(Blk.new W 191 #[.pointer (some ⟨p,0,none⟩),.func (.func F) #[] cb,.map (some dk)]).alloc (.cells #[.int .u64 0,.int .i64 0,.bool false] 136);have k1:=Blk.new (W.alloc (.cells #[.pointer (some ⟨p,0,none⟩),.func (.func F) #[] cb,.map (some dk)] 191)) 136 #[.int .u64 0,.int .i64 0,.bool false];simp only[World.size_alloc] at k1;have hbA:zB W ((W.alloc (.cells #[.pointer (some ⟨p,0,none⟩),.func (.func F) #[] cb,.map (some dk)] 191)).alloc (.cells #[.int .u64 0,.int .i64 0,.bool false] 136)):=((Below.refl _ W).alloc zN _).alloc (by simp only[World.size_alloc];omega) _;have hs:=hb1.size;simp only[World.size_alloc] at hs;have hb2:=Go.Proofs.YtlmmkbnjhilbdaaGreatDoor.below_new w1 (.cells #[.int .i64 (zl st.1 h).v,.int .i64 (zl st.1 h).l,.int .i64 (zl st.1 h).h] 194);have hb3:zB W (w1.alloc (.cells #[.int .i64 (zl st.1 h).v,.int .i64 (zl st.1 h).l,.int .i64 (zl st.1 h).h] 194)):=(zT hbA hb1).trans (hb2.mono (by omega));exact⟨(k0.below hb1 k0.lt).alloc _,(k1.below hb1 k1.lt).alloc _,Blk.new _ _ _,by omega,hM.lt,zT hW hb3,⟨L,hM.new hb3⟩,ze.of_below hb3 _⟩
theorem zeT(cx:Yh W0 B p s b O vars room st F cb C dk)(h:Int)(L:List (Int × Wy))(W:World)(hW:zB W0 W)(hM:qr C W dk vars st.1 L)(hh:zj st.1 h=true)(ht:zb st.1 h=24) :
  zC 150 #[wkV p F cb dk,.int .i64 h] W (Q8 C dk vars st.1 (yq C vars st.1 h) W):=by
 have hi64:=yS hh (by have:=cx.len;omega);have hbA:zB W ((W.alloc (.cells #[.pointer (some ⟨p,0,none⟩),.func (.func F) #[] cb,.map (some dk)] 191)).alloc (.cells #[.int .u64 0,.int .i64 0,.bool false] 136)):=((Below.refl _ W).alloc zN _).alloc (by simp only[World.size_alloc];omega) _;have hsolA:=cx.sol.new (zT hW hbA);have k0:=(Blk.new W 191 #[.pointer (some ⟨p,0,none⟩),.func (.func F) #[] cb,.map (some dk)]).alloc (.cells #[.int .u64 0,.int .i64 0,.bool false] 136);have HG:=zH (Q9 hsolA.space h hi64 (by have:=cx.len;omega));have HHD:Hid (∀w1,Below ((W.alloc (.cells #[.pointer (some ⟨p,0,none⟩),.func (.func F) #[] cb,.map (some dk)] 191)).alloc (.cells #[.int .u64 0,.int .i64 0,.bool false] 136)).heap.size ((W.alloc (.cells #[.pointer (some ⟨p,0,none⟩),.func (.func F) #[] cb,.map (some dk)] 191)).alloc (.cells #[.int .u64 0,.int .i64 0,.bool false] 136)) w1->NS C W0 W p dk vars st.1 F cb w1.heap.size (zl st.1 h).v (zl st.1 h).l (zl st.1 h).h (w1.alloc (.cells #[.int .i64 (zl st.1 h).v,.int .i64 (zl st.1 h).l,.int .i64 (zl st.1 h).h] 194))):=fun w1 hb1=>za2 hW hM hb1;have c0:=k0.cell 0;have c1:((W.alloc (.cells #[.pointer (some ⟨p,0,none⟩),.func (.func F) #[] cb,.map (some dk)] 191)).alloc (.cells #[.int .u64 0,.int .i64 0,.bool false] 136)).cell? ⟨p,0,none⟩=some (.pointer (some ⟨s,0,none⟩)):=hsolA.blk.cell 0;have c2:((W.alloc (.cells #[.pointer (some ⟨p,0,none⟩),.func (.func F) #[] cb,.map (some dk)] 191)).alloc (.cells #[.int .u64 0,.int .i64 0,.bool false] 136)).cell? ⟨s,0,none⟩=some (.pointer (some ⟨b,0,none⟩)):=hsolA.space.c0;have HCX:=zH cx;have hdkl:=cx.dkl;have hdW:=hM.lt;have hW0:=hW.size;unfold Nd.val at HG;have hR:yq C vars st.1 h=⟨0,0,decide (h=1)⟩:=zmg hh ht cx.v24;rw[decide_eq_false (show ¬zb st.1 h≠24 from fun e=>e ht)] at HG;have HR:=zH hR;clear hM hsolA hR ht;unfold wkV;go_enter Tryz.func150,Tryz.ntmps150;go_upto_region 1 with fail;generalize (W.alloc (.cells #[.pointer (some ⟨p,0,none⟩),.func (.func F) #[] cb,.map (some dk)] 191)).alloc (.cells #[.int .u64 0,.int .i64 0,.bool false] 136)=WA at *;go_wp2_with fail;refine HG.out.mono ?_;rintro e w1 ⟨rfl,hb1⟩;have hns:=HHD.out w1 hb1;have z0:=hns.w1.cell 0;have z1:=hns.w1.cell 1;have z2:=hns.w1.cell 2;have y0:=hns.w1.frozen 0;have y1:=hns.w1.frozen 1;have y2:=hns.w1.frozen 2;have hres:=set3 hns.w1 (.int .u64 0) (.int .i64 0) (.bool (h==1));have r0:=hres.cell 0;have r1:=hres.cell 1;have r2:=hres.cell 2;have HFIN:=zH (JR ⟨0,0,h==1⟩ hdW hns.way hns.kep);clear hres hns hb1 HG HHD c0 c1 c2 hbA k0;go_wp2;refine bodyPost_ret (v:=.agg #[.int .u64 0,.int .i64 0,.bool (h==1)]) (by simp[results,Tryz.f150,go_sem,r0,r1,r2]) rfl ?_;exact⟨by rw[HR.out];rfl,HFIN.out⟩
theorem zm3(cx:Yh W0 B p s b O vars room st F cb C dk)(h:Int)(L:List (Int × Wy))(W:World)(hW:zB W0 W)(hM:qr C W dk vars st.1 L)(hh:zj st.1 h=true)(ht:zb st.1 h≠24)(R:Wy)(hin:(h,R)∈L) :
  zC 150 #[wkV p F cb dk,.int .i64 h] W (Q8 C dk vars st.1 (yq C vars st.1 h) W):=by
 have hi64:=yS hh (by have:=cx.len;omega);have hbA:zB W ((W.alloc (.cells #[.pointer (some ⟨p,0,none⟩),.func (.func F) #[] cb,.map (some dk)] 191)).alloc (.cells #[.int .u64 0,.int .i64 0,.bool false] 136)):=((Below.refl _ W).alloc zN _).alloc (by simp only[World.size_alloc];omega) _;have hsolA:=cx.sol.new (zT hW hbA);have k0:=(Blk.new W 191 #[.pointer (some ⟨p,0,none⟩),.func (.func F) #[] cb,.map (some dk)]).alloc (.cells #[.int .u64 0,.int .i64 0,.bool false] 136);have HG:=zH (Q9 hsolA.space h hi64 (by have:=cx.len;omega));have HHD:Hid (∀w1,Below ((W.alloc (.cells #[.pointer (some ⟨p,0,none⟩),.func (.func F) #[] cb,.map (some dk)] 191)).alloc (.cells #[.int .u64 0,.int .i64 0,.bool false] 136)).heap.size ((W.alloc (.cells #[.pointer (some ⟨p,0,none⟩),.func (.func F) #[] cb,.map (some dk)] 191)).alloc (.cells #[.int .u64 0,.int .i64 0,.bool false] 136)) w1->NS C W0 W p dk vars st.1 F cb w1.heap.size (zl st.1 h).v (zl st.1 h).l (zl st.1 h).h (w1.alloc (.cells #[.int .i64 (zl st.1 h).v,.int .i64 (zl st.1 h).l,.int .i64 (zl st.1 h).h] 194))):=fun w1 hb1=>za2 hW hM hb1;have c0:=k0.cell 0;have c1:((W.alloc (.cells #[.pointer (some ⟨p,0,none⟩),.func (.func F) #[] cb,.map (some dk)] 191)).alloc (.cells #[.int .u64 0,.int .i64 0,.bool false] 136)).cell? ⟨p,0,none⟩=some (.pointer (some ⟨s,0,none⟩)):=hsolA.blk.cell 0;have c2:((W.alloc (.cells #[.pointer (some ⟨p,0,none⟩),.func (.func F) #[] cb,.map (some dk)] 191)).alloc (.cells #[.int .u64 0,.int .i64 0,.bool false] 136)).cell? ⟨s,0,none⟩=some (.pointer (some ⟨b,0,none⟩)):=hsolA.space.c0;have HCX:=zH cx;have hdkl:=cx.dkl;have hdW:=hM.lt;have hW0:=hW.size;unfold Nd.val at HG;have hR:yq C vars st.1 h=R:=(hM.vals _ hin).symm;rw[decide_eq_true ht] at HG;have HR:=zH hR;have HLK:Hid (∀X,ze (fun k=>False) W X->(Instr.lookup 189 (.map (some dk)) (.int .i64 h) true).run Tryz.prog X=.ok (.tuple #[R.val,.bool true]) X):=fun X hk=>by
  obtain⟨D,hD,hRp⟩:=(hM.kept hk (fun h=>h)).hmap;exact zhC hD hRp hin
 clear hM hsolA hR;unfold wkV;go_enter Tryz.func150,Tryz.ntmps150;go_upto_region 1 with fail;generalize (W.alloc (.cells #[.pointer (some ⟨p,0,none⟩),.func (.func F) #[] cb,.map (some dk)] 191)).alloc (.cells #[.int .u64 0,.int .i64 0,.bool false] 136)=WA at *;go_wp2_with fail;refine HG.out.mono ?_;rintro e w1 ⟨rfl,hb1⟩;have hns:=HHD.out w1 hb1;have hk1:ze (fun _=>False) W (w1.alloc (.cells #[.int .i64 (zl st.1 h).v,.int .i64 (zl st.1 h).l,.int .i64 (zl st.1 h).h] 194)):=ze.of_below ((zT hbA hb1).alloc (Nat.le_trans hbA.size hb1.size) _) _;have hlk:=HLK.out _ hk1;have a2:=hns.w0.cell 2;generalize zl st.1 h=gt at *;go_upto_region 2 with fail;generalize w1.alloc (.cells #[.int .i64 gt.v,.int .i64 gt.l,.int .i64 gt.h] 194)=W2 at *;unfold Wy.val at hlk;have hn3:=hns.below (Go.Proofs.YtlmmkbnjhilbdaaGreatDoor.below_new W2 (.cells #[.int .u64 R.items,.int .i64 R.cost,.bool R.can] 136));have z0:=hn3.w1.cell 0;have z1:=hn3.w1.cell 1;have z2:=hn3.w1.cell 2;have y0:=hn3.w1.frozen 0;have y1:=hn3.w1.frozen 1;have y2:=hn3.w1.frozen 2;have hres:=set3 hn3.w1 (.int .u64 R.items) (.int .i64 R.cost) (.bool R.can);have r0:=hres.cell 0;have r1:=hres.cell 1;have r2:=hres.cell 2;have HFIN:=zH (JR R hdW hn3.way hn3.kep);clear hres hns hn3 hb1 HG HHD HLK c0 c1 c2 hbA k0 hk1;go_wp2;refine bodyPost_ret (v:=.agg #[.int .u64 R.items,.int .i64 R.cost,.bool R.can]) (by simp[results,Tryz.f150,go_sem,r0,r1,r2]) rfl ?_;exact⟨by rw[HR.out];rfl,HFIN.out⟩
end
end Bd
namespace Bd
open Go.RowKit Go.Maps Go.Deep
section
variable {W0:World} {B p s b:Nat} {O:Nat->Prop} {vars:Nat} {room:Int} {st:List Nd × Int} {F:FuncId} {cb:Array Value} {C:qE} {dk:Nat} {W X X':World} {ns:List Nd} {nb:Nat} {gv gl gh:Int}
structure NQ(C:qE)(W0 W:World)(p dk vars:Nat)(ns:List Nd)(F:FuncId)(cb:Array Value)(nb:Nat)(gv gl gh:Int)(q:Nat)(x:Wy)(X:World):Prop where
 ns:NS C W0 W p dk vars ns F cb nb gv gl gh X
 bx:Blk X q 136 #[.int .u64 x.items,.int .i64 x.cost,.bool x.can]
 q1:W.heap.size+1<q
 qn:q≠nb
theorem NS.box(h:NS C W0 W p dk vars ns F cb nb gv gl gh X)(x:Wy):NQ C W0 W p dk vars ns F cb nb gv gl gh X.heap.size x (X.alloc (.cells #[.int .u64 x.items,.int .i64 x.cost,.bool x.can] 136)) :=
 ⟨h.below (Go.Proofs.YtlmmkbnjhilbdaaGreatDoor.below_new X _),Blk.new _ _ _,by have:=h.w1.lt;have:=h.q1;have:=h.w2.lt;omega,by have:=h.w2.lt;omega⟩
theorem NS.box0(h:NS C W0 W p dk vars ns F cb nb gv gl gh X):NQ C W0 W p dk vars ns F cb nb gv gl gh X.heap.size ⟨0,0,false⟩ (X.alloc (.cells #[.int .u64 0,.int .i64 0,.bool false] 136)):=h.box ⟨0,0,false⟩
theorem NQ.kept{q:Nat}{x:Wy}(h:NQ C W0 W p dk vars ns F cb nb gv gl gh q x X)(hd:W0.heap.size<=dk)(hk:ze (fun k=>k=dk) X X')(hw:∃L',qr C X' dk vars ns L'):NQ C W0 W p dk vars ns F cb nb gv gl gh q x X' :=
 ⟨h.ns.kept hd hk hw,h.bx.keptB hk (by have:=h.q1;have:=h.ns.dq;omega),h.q1,h.qn⟩
theorem NQ.below{q:Nat}{x:Wy}(h:NQ C W0 W p dk vars ns F cb nb gv gl gh q x X)(hb:zB X X'):NQ C W0 W p dk vars ns F cb nb gv gl gh q x X':=⟨h.ns.below hb,h.bx.below hb h.bx.lt,h.q1,h.qn⟩
theorem NQ.put{q:Nat}{x:Wy}(h:NQ C W0 W p dk vars ns F cb nb gv gl gh q x X)(hW:W0.heap.size<=W.heap.size)(y:Wy):NQ C W0 W p dk vars ns F cb nb gv gl gh q y (((X.setCell ⟨q,0,none⟩ (.int .u64 y.items)).setCell ⟨q,1,none⟩ (.int .i64 y.cost)).setCell ⟨q,2,none⟩ (.bool y.can)) :=
 ⟨h.ns.put hW h.q1 h.qn _ _ _,set3 h.bx _ _ _,h.q1,h.qn⟩
def zhR(C:qE)(W0 W:World)(p dk vars:Nat)(ns:List Nd)(F:FuncId)(cb:Array Value)(nb:Nat)(gv gl gh:Int)(x:Wy)(qv:Value)(X:World):Prop:=∃q,qv=.pointer (some ⟨q,0,none⟩)/\NQ C W0 W p dk vars ns F cb nb gv gl gh q x X
theorem zkT(cx:Yh W0 B p s b O vars room st F cb C dk){d:Nat}(hF:zdd W0 p vars st.1 F cb C dk d)(h:Int)(L:List (Int × Wy))(W:World)(hW:zB W0 W)(hM:qr C W dk vars st.1 L)(hh:zj st.1 h=true)(ht:zb st.1 h≠24)(hd:24<=zb st.1 h+((d+1:Nat):Int))(hnin:h∉L.map Prod.fst) :
  zC 150 #[wkV p F cb dk,.int .i64 h] W (Q8 C dk vars st.1 (yq C vars st.1 h) W):=by
 have hi64:=yS hh (by have:=cx.len;omega);have hbA:zB W ((W.alloc (.cells #[.pointer (some ⟨p,0,none⟩),.func (.func F) #[] cb,.map (some dk)] 191)).alloc (.cells #[.int .u64 0,.int .i64 0,.bool false] 136)):=((Below.refl _ W).alloc zN _).alloc (by simp only[World.size_alloc];omega) _;have hsolA:=cx.sol.new (zT hW hbA);have k0:=(Blk.new W 191 #[.pointer (some ⟨p,0,none⟩),.func (.func F) #[] cb,.map (some dk)]).alloc (.cells #[.int .u64 0,.int .i64 0,.bool false] 136);have HG:=zH (Q9 hsolA.space h hi64 (by have:=cx.len;omega));have HHD:Hid (∀w1,Below ((W.alloc (.cells #[.pointer (some ⟨p,0,none⟩),.func (.func F) #[] cb,.map (some dk)] 191)).alloc (.cells #[.int .u64 0,.int .i64 0,.bool false] 136)).heap.size ((W.alloc (.cells #[.pointer (some ⟨p,0,none⟩),.func (.func F) #[] cb,.map (some dk)] 191)).alloc (.cells #[.int .u64 0,.int .i64 0,.bool false] 136)) w1->NS C W0 W p dk vars st.1 F cb w1.heap.size (zl st.1 h).v (zl st.1 h).l (zl st.1 h).h (w1.alloc (.cells #[.int .i64 (zl st.1 h).v,.int .i64 (zl st.1 h).l,.int .i64 (zl st.1 h).h] 194))):=fun w1 hb1=>za2 hW hM hb1;have c0:=k0.cell 0;have c1:((W.alloc (.cells #[.pointer (some ⟨p,0,none⟩),.func (.func F) #[] cb,.map (some dk)] 191)).alloc (.cells #[.int .u64 0,.int .i64 0,.bool false] 136)).cell? ⟨p,0,none⟩=some (.pointer (some ⟨s,0,none⟩)):=hsolA.blk.cell 0;have c2:((W.alloc (.cells #[.pointer (some ⟨p,0,none⟩),.func (.func F) #[] cb,.map (some dk)] 191)).alloc (.cells #[.int .u64 0,.int .i64 0,.bool false] 136)).cell? ⟨s,0,none⟩=some (.pointer (some ⟨b,0,none⟩)):=hsolA.space.c0;have hdkl:=cx.dkl;have hdW:=hM.lt;have hW0:=hW.size;have hv24:=cx.v24;unfold Nd.val at HG;rw[decide_eq_true ht] at HG;have hr:=cx.good.ranked;have hgn:=zaP ht;obtain⟨t1,t2,t3,t4⟩:=xN hr ht;have tv:=(yU ht).2.2.1;have htl:=YC hr ht;have ht0:=(qi hr h).1;have htv:=YN cx.good ht;have hRB:=zli (C:=C) cx.good ht;rw[<-hgn] at t1 t2 t3 t4 tv hRB;obtain⟨v,hv⟩:∃v:Nat,zb st.1 h=(v:Int):=⟨(zb st.1 h).toNat,by omega⟩;rw[hv] at t1 t3 tv hRB hd htl htv;rw[Int.toNat_natCast] at hRB;have HPUT:Hid (∀X,(∃L',qr C X dk vars st.1 L')->∃w' L',(Instr.mapUpdate 189 (.map (some dk)) (.int .i64 h) (yq C vars st.1 h).val).run Tryz.prog X=.ok () w'/\qr C w' dk vars st.1 L'/\ze (fun j=>j=dk) X w'):=fun X ⟨L',hL⟩=>zmD hL hi64 ht cx.len;have HLK:Hid (∀X,ze (fun _=>False) W X->(Instr.lookup 189 (.map (some dk)) (.int .i64 h) true).run Tryz.prog X=.ok (.tuple #[Wy.val ⟨0,0,false⟩,.bool false]) X):=fun X hk=>by
  obtain⟨D,hD,hRp⟩:=(hM.kept hk (fun h=>h)).hmap;exact zgw hD hRp hi64 hnin
 have oA:=zbk (ns:=st.1) cx.cok hv24 (zl st.1 h).l (v+1);have oB:=zbk (ns:=st.1) cx.cok hv24 (zl st.1 h).h (v+1);have hp24:2^vars<=2^24:=Nat.pow_le_pow_right (by omega) hv24;have HF1:Hid (∀X,zB W0 X->(∃L',qr C X dk vars st.1 L')->zC 102 #[wkV p F cb dk,.int .i64 ((v:Int)+1),.int .i64 (zl st.1 h).l] X fun e w'=>e=.returned (qh C vars st.1 (zl st.1 h).l (v+1)).val/\∃L',qr C w' dk vars st.1 L'/\ze (fun k=>k=dk) X w'):=fun X h1 ⟨L',h2⟩=>hF (zl st.1 h).l (v+1) L' X h1 h2 t2 (by omega) (by omega) (by omega);have HF2:Hid (∀X,zB W0 X->(∃L',qr C X dk vars st.1 L')->zC 102 #[wkV p F cb dk,.int .i64 ((v:Int)+1),.int .i64 (zl st.1 h).h] X fun e w'=>e=.returned (qh C vars st.1 (zl st.1 h).h (v+1)).val/\∃L',qr C w' dk vars st.1 L'/\ze (fun k=>k=dk) X w'):=fun X h1 ⟨L',h2⟩=>hF (zl st.1 h).h (v+1) L' X h1 h2 t4 (by omega) (by omega) (by omega);have HBT:Hid (∀X,zB W0 X->zC 151 #[wkV p F cb dk,.int .i64 v,(qh C vars st.1 (zl st.1 h).l (v+1)).val,(qh C vars st.1 (zl st.1 h).h (v+1)).val] X fun e w'=>e=.returned (yq C vars st.1 h).val/\zB X w'):=fun X hX=>by
  rw[hRB];exact ze8 F cb C vars hv24 cx.ent cx.cok cx.cat hX p dk v (by omega) _ _ ⟨oA.1,oA.2.1⟩ ⟨oB.1,oB.2.1⟩ (Nat.lt_of_lt_of_le (oB.2.2 (by omega)) hp24)
 generalize qh C vars st.1 (zl st.1 h).l (v+1)=RA at *;generalize qh C vars st.1 (zl st.1 h).h (v+1)=RB at *;generalize zl st.1 h=gt at *;obtain⟨gv,gl,gh⟩:=gt;simp only at *;subst tv;obtain⟨R,hR⟩:∃R,yq C vars st.1 h=R:=⟨_,rfl⟩;rw[hR] at HPUT HBT ⊢;clear hM hsolA hR hRB t1 t2 t3 t4 hgn oA oB hF htl hr hv hd cx;unfold wkV at *;go_enter Tryz.func150,Tryz.ntmps150;go_upto_region 1 with fail;generalize (W.alloc (.cells #[.pointer (some ⟨p,0,none⟩),.func (.func F) #[] cb,.map (some dk)] 191)).alloc (.cells #[.int .u64 0,.int .i64 0,.bool false] 136)=WA at *;go_wp2_with fail;refine HG.out.mono ?_;rintro e w1 ⟨rfl,hb1⟩;have hns:=HHD.out w1 hb1;have hk1:ze (fun _=>False) W (w1.alloc (.cells #[.int .i64 v,.int .i64 gl,.int .i64 gh] 194)):=ze.of_below ((zT hbA hb1).alloc (Nat.le_trans hbA.size hb1.size) _) _;have hlk:=HLK.out _ hk1;unfold Wy.val at hlk;have a2:=hns.w0.cell 2;go_upto_region 2 with fail;generalize w1.alloc (.cells #[.int .i64 v,.int .i64 gl,.int .i64 gh] 194)=W2 at *;have hn3:=hns.below (Go.Proofs.YtlmmkbnjhilbdaaGreatDoor.below_new W2 (.cells #[.int .u64 ((0:Nat):Int),.int .i64 0,.bool false] 136));clear hns hb1 HG HHD HLK c0 c1 c2 hbA k0 hk1;go_upto_region 7 with fail;unfold Wy.val at HF1 HF2 HBT HPUT;have hn4:NS C W0 W p dk vars st.1 F cb w1.heap.size v gl gh (W2.alloc (.cells #[.int .u64 0,.int .i64 0,.bool false] 136)):=hn3;generalize W2.alloc (.cells #[.int .u64 0,.int .i64 0,.bool false] 136)=W3 at *;have N0:=hn4.below (Below.refl _ W3).drew;have G0:=(hn4.box0).below zF.drew;have s0:=N0.sc;have t0:=G0.ns.sc;have hv0:(0:Int)<=v:=by omega
 have hv23:(v:Int)+1<=24:=by omega
 clear hn3 hn4 hlk a2;generalize w1.heap.size=nb at *;have hwp:IntKind.i64.wrap ((v:Int)+1)=(v:Int)+1:=by rw[IntKind.wrap_i64];omega
 rw[<-hwp] at HF1 HF2;clear hwp;go_cut [9] (fun qv wx=>zhR C W0 W p dk vars st.1 F cb nb v gl gh R qv wx)
 case rest =>obtain⟨q,rfl,hE⟩:=hcut;clear N0 G0 s0 t0 HF1 HF2 HBT;obtain⟨w8,L8,hrun,hL8,hk8⟩:=HPUT.out _ hE.ns.way;have hE8:=hE.kept hdkl hk8 ⟨L8,hL8⟩;have a2:=hE.ns.w0.cell 2;have e0:=hE.bx.cell 0;have e1:=hE.bx.cell 1;have e2:=hE.bx.cell 2;have f0:=hE8.bx.cell 0;have f1:=hE8.bx.cell 1;have f2:=hE8.bx.cell 2;have z0:=hE8.ns.w1.cell 0;have z1:=hE8.ns.w1.cell 1;have z2:=hE8.ns.w1.cell 2;have y0:=hE8.ns.w1.frozen 0;have y1:=hE8.ns.w1.frozen 1;have y2:=hE8.ns.w1.frozen 2;have hres:=set3 hE8.ns.w1 (.int .u64 R.items) (.int .i64 R.cost) (.bool R.can);have r0:=hres.cell 0;have r1:=hres.cell 1;have r2:=hres.cell 2;have HFIN:=zH (JR R hdW hE8.ns.way hE8.ns.kep);clear hres hE hE8 hL8 hk8 HPUT;go_wp2;refine bodyPost_ret (v:=.agg #[.int .u64 R.items,.int .i64 R.cost,.bool R.can]) (by simp[results,Tryz.f150,go_sem,r0,r1,r2]) rfl ?_;exact⟨rfl,HFIN.out⟩
 go_region_held3 (fun X=>X.cell? ⟨W.heap.size,0,none⟩=some (.pointer (some ⟨p,0,none⟩))/\X.cell? ⟨W.heap.size,1,none⟩=some (.func (.func F) #[] cb)/\X.cell? ⟨W.heap.size,2,none⟩=some (.map (some dk))/\X.cell? ⟨nb,0,none⟩=some (.int .i64 v)/\X.cell? ⟨nb,1,none⟩=some (.int .i64 gl)/\X.cell? ⟨nb,2,none⟩=some (.int .i64 gh)) (first|with_reducible exact s0|with_reducible exact t0|with_reducible exact s1|with_reducible exact t1|with_reducible exact u1|with_reducible exact s2|with_reducible exact t2|with_reducible exact u2|with_reducible exact s3|with_reducible exact t3|with_reducible exact u3|with_reducible exact x3)
  (first
   |(go_at_call 102;with_reducible refine(HF1.out _ N0.bel N0.way).mono ?_;rintro e w4 ⟨rfl,L4,hM4,hk4⟩;have N1:=N0.kept hdkl hk4 ⟨L4,hM4⟩;have G1:=N1.box0;have s1:=N1.sc;have t1:=G1.ns.sc;clear hM4 hk4 N0 G0 s0 t0 HF1)
   |(go_at_call 102;with_reducible refine(HF1.out _ G0.ns.bel G0.ns.way).mono ?_;rintro e w4 ⟨rfl,L4,hM4,hk4⟩;have U1:=G0.kept hdkl hk4 ⟨L4,hM4⟩;have u1:=U1.ns.sc;clear hM4 hk4 N0 G0 s0 t0 HF1)
   |(go_at_call 102;with_reducible refine(HF2.out _ N1.bel N1.way).mono ?_;rintro e w5 ⟨rfl,L5,hM5,hk5⟩;have N2:=N1.kept hdkl hk5 ⟨L5,hM5⟩;have G2:=N2.box0;have s2:=N2.sc;have t2:=G2.ns.sc;clear hM5 hk5 N1 G1 s1 t1 HF2)
   |(go_at_call 102;with_reducible refine(HF2.out _ G1.ns.bel G1.ns.way).mono ?_;rintro e w5 ⟨rfl,L5,hM5,hk5⟩;have U2:=G1.kept hdkl hk5 ⟨L5,hM5⟩;have u2:=U2.ns.sc;clear hM5 hk5 N1 G1 s1 t1 HF2)
   |(go_at_call 102;with_reducible refine(HF2.out _ U1.ns.bel U1.ns.way).mono ?_;rintro e w5 ⟨rfl,L5,hM5,hk5⟩;have U2:=U1.kept hdkl hk5 ⟨L5,hM5⟩;have u2:=U2.ns.sc;clear hM5 hk5 U1 u1 HF2)
   |(go_at_call 151;with_reducible refine(HBT.out _ N2.bel).mono ?_;rintro e w6 ⟨rfl,hb6⟩;have N3':=N2.below hb6;have N3:=N3'.box0;have s3:=N3'.sc;have t3:=N3.ns.sc;have z0:=N3.bx.cell 0;have z1:=N3.bx.cell 1;have z2:=N3.bx.cell 2;have y0:=N3.bx.frozen 0;have y1:=N3.bx.frozen 1;have y2:=N3.bx.frozen 2;have NE:=N3'.box R;have x3:=NE.ns.sc;have HE:=zH NE;clear hb6 N3 N3' NE N2 G2 s2 t2 HBT)
   |(go_at_call 151;with_reducible refine(HBT.out _ G2.ns.bel).mono ?_;rintro e w6 ⟨rfl,hb6⟩;have N3:=G2.below hb6;have s3:=N3.ns.sc;have t3:=(N3.put hW0 R).ns.sc;have z0:=N3.bx.cell 0;have z1:=N3.bx.cell 1;have z2:=N3.bx.cell 2;have y0:=N3.bx.frozen 0;have y1:=N3.bx.frozen 1;have y2:=N3.bx.frozen 2;have HE:=zH (N3.put hW0 R);clear hb6 N3 N2 G2 s2 t2 HBT)
   | (go_at_call 151;with_reducible refine (HBT.out _ U2.ns.bel).mono ?_;rintro e w6 ⟨rfl,hb6⟩;have N3:=U2.below hb6;have s3:=N3.ns.sc;have t3:=(N3.put hW0 R).ns.sc;have z0:=N3.bx.cell 0;have z1:=N3.bx.cell 1;have z2:=N3.bx.cell 2;have y0:=N3.bx.frozen 0;have y1:=N3.bx.frozen 1;have y2:=N3.bx.frozen 2;have HE:=zH (N3.put hW0 R);clear hb6 N3 U2 u2 HBT))
 all_goals
  have hE:=HE.out;clear HE
  try clear z0 z1 z2
  try clear y0 y1 y2
  try clear s3 t3
  try clear x3
  go_wp2_with fail;go_meet
  case rel=>exact⟨_,rfl,hE⟩
end
end Bd
end Go.Proofs.YtlmmkbnjhilbdaaGreatDoor
