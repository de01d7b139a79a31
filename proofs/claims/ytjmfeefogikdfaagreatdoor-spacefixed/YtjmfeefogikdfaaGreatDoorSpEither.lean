/- space: either: the walk. -/
import Derived.Test.YtjmfeefogikdfaaGreatDoorCnDouble
import Derived.Test.YtjmfeefogikdfaaGreatDoorWyBet
namespace Go.Proofs.YtjmfeefogikdfaaGreatDoor
set_option maxHeartbeats 4000000
set_option maxRecDepth 100000
namespace Bd
open Go.RowKit Go.Maps Num
def qd(w:World)(v:Value)(m:Nat):Prop:=∃x:NV,v=x.val/\∃ds,Dig .u64 w (.slice x.a x.n x.c) ds/\xJ 1000000000 ds/\val 1000000000 ds=m
theorem qd.new{w w':World}{v:Value}{m:Nat}(h:qd w v m)(hb:zB w w'):qd w' v m:=by
 obtain⟨x,e,ds,h1,h2,h3⟩:=h;exact⟨x,e,ds,h1.below hb,h2,h3⟩
theorem qd.kept{S:Nat->Prop}{w w':World}{v:Value}{m:Nat}(h:qd w v m)(hk:zb S w w')(hn:∀b o n,S b->w.cell? ⟨b,o,none⟩≠some (.int .u64 n)):qd w' v m:=by
 obtain⟨x,e,ds,⟨a,cap,hv,hc,hi⟩,h2,h3⟩:=h;refine⟨x,e,ds,⟨a,cap,hv,hc,fun i hl=>?_⟩,h2,h3⟩;obtain⟨b,off,ha,hb,hcell⟩:=hi i hl;exact⟨b,off,ha,Nat.lt_of_lt_of_le hb hk.size,(hk.cell (a:=⟨b,off+i,none⟩) hb (fun hs=>hn b _ _ hs hcell)).trans hcell⟩
theorem J5{w:World}{s:Value}{ds:List Nat}{m:Nat}(h:Dig .u64 w s ds)(hN:xJ 1000000000 ds)(hv:val 1000000000 ds=m):qd w (.agg #[s]) m:=by
 have h0:=h;obtain⟨a,cap,e,-⟩:=h0;subst e;exact⟨⟨a,ds.length,cap⟩,rfl,ds,h,hN,hv⟩
theorem qd.open{w:World}{v:Value}{m:Nat}(h:qd w v m)(hm:m<=100000000):∃s ds,v=.agg #[s]/\Dig .u64 w s ds/\xJ 1000000000 ds/\val 1000000000 ds=m/\ds.length<=1:=by
 obtain⟨x,e,ds,h1,h2,h3⟩:=h;exact⟨_,ds,e,h1,h2,h3,ziU (by omega) h2 (by rw[h3];omega)⟩
structure qC(w:World)(dk vars:Nat)(ns:List Nd)(L:List (Int × NV)):Prop where
 hmap:∃D,w.ownsMap Tryz.prog 3 Qn dk L.length D/\YT D L
 keys:∀p∈L,za ns p.1≠24
 nums:∀p∈L,qd w p.2.val (yq vars ns p.1)
section
variable {w w':World} {dk vars:Nat} {ns:List Nd} {L:List (Int × NV)}
theorem qC.lt(h:qC w dk vars ns L):dk<w.heap.size:=by obtain⟨D,hD,-⟩:=h.hmap;exact hD.lt
theorem qC.none(h:qC w dk vars ns L)(o:Nat):w.cell? ⟨dk,o,none⟩=none:=by
 obtain⟨D,⟨es,clock,hb,-⟩,-⟩:=h.hmap;unfold World.cell?;simp only[hb]
theorem qC.kept{S:Nat->Prop}(h:qC w dk vars ns L)(hk:zb S w w')(hn:¬S dk)(hc:∀b o n,S b->w.cell? ⟨b,o,Option.none⟩≠some (.int .u64 n)):qC w' dk vars ns L:=by
 obtain⟨D,hD,hR⟩:=h.hmap;exact⟨⟨D,ZC hD hk hn,hR⟩,h.keys,fun p hp=>(h.nums p hp).kept hk hc⟩
theorem qC.new(h:qC w dk vars ns L)(hb:zB w w'):qC w' dk vars ns L:=h.kept (zb.of_below hb (fun _=>False)) (fun h=>h) (fun _ _ _ h=>h.elim)
theorem qC.no(h:qC w dk vars ns L)(b o:Nat)(n:Int)(e:b=dk):w.cell? ⟨b,o,Option.none⟩≠some (.int .u64 n):=by rw[e,h.none];exact fun h=>by cases h
theorem X4(w:World)(o:Nat)(n:Int):(w.alloc (.cells #[.slice none 0 0] 56)).cell? ⟨w.heap.size,o,Option.none⟩≠some (.int .u64 n):=by
 cases o with
 |zero=>simp
 |succ o=>simp
theorem qd.box{v:Value}{m bx:Nat}(h:qd w v m)(hb:∀o n,w.cell? ⟨bx,o,Option.none⟩≠some (.int .u64 n))(u:Value):qd (w.setCell ⟨bx,0,Option.none⟩ u) v m :=
 h.kept (S:=fun j=>j=bx) (zb.setCell _ _ _ rfl) (fun b o n e=>by rw[e];exact hb o n)
theorem qC.box{bx:Nat}(h:qC w dk vars ns L)(hb:∀o n,w.cell? ⟨bx,o,Option.none⟩≠some (.int .u64 n))(hne:bx≠dk)(u:Value):qC (w.setCell ⟨bx,0,Option.none⟩ u) dk vars ns L :=
 h.kept (S:=fun j=>j=bx) (zb.setCell _ _ _ rfl) (fun e=>hne e.symm) (fun b o n e=>by rw[e];exact hb o n)
theorem QT:∀(n:Nat) (l:List Nat),l.Nodup->(∀x∈l,x<n)->l.length<=n
 |0,l,_,h=>by
  cases l with
  |nil=>simp
  |cons a l=>have:=h a (List.mem_cons_self ..);omega
 |n+1,l,hd,h=>by
  have ih:=QT n (l.erase n) (hd.erase n) (fun x hx=>by
   have h1:=(hd.mem_erase_iff).1 hx;have h2:=h x h1.2;have h3:=h1.1;omega)
  by_cases hm:n∈l
  ·rw[List.length_erase_of_mem hm] at ih;omega
  ·rw[List.erase_of_not_mem hm] at ih;omega
theorem qC.len(h:qC w dk vars ns L):L.length<=ns.length:=by
 obtain⟨D,-,hR⟩:=h.hmap;have hk:∀p∈L,p.1=2+(pl p.1:Int)/\pl p.1<ns.length:=fun p hp=>⟨(yE (h.keys p hp)).2.2.2,(yE (h.keys p hp)).2.1⟩;have hd:=Rep.nodup hR;have:=QT ns.length (L.map fun p=>pl p.1) (by
  have e:(L.map fun p=>pl p.1)=(L.map Prod.fst).map pl:=by simp
  rw[e];refine(List.nodup_iff_pairwise_ne.1 hd |> fun hp=>?_);refine List.nodup_iff_pairwise_ne.2 (List.pairwise_map.2 (hp.imp_of_mem fun {a b} ha hb hab e=>hab ?_));obtain⟨p,hp1,rfl⟩:=List.mem_map.1 ha;obtain⟨q,hq1,rfl⟩:=List.mem_map.1 hb;rw[(hk p hp1).1,(hk q hq1).1,e]) (fun x hx=>by
  obtain⟨p,hp1,rfl⟩:=List.mem_map.1 hx;exact (hk p hp1).2)
 simpa using this
end
def Zr(dk vars:Nat)(ns:List Nd)(m:Nat)(w:World)(e:Ending)(w':World):Prop :=
 ∃v L',e=.returned v/\qd w' v m/\qC w' dk vars ns L'/\zb (fun j=>j=dk) w w'
def zeb(B s b dk:Nat)(O:Nat->Prop)(vars:Nat)(room:Int)(ns:List Nd)(d:Nat):Prop :=
 ∀(h:Int) (L:List (Int × NV)) (w:World),zm B w s b O vars room ns->qC w dk vars ns L->zg ns h=true->24<=za ns h+d ->
  zC 81 #[.pointer (some ⟨s,0,none⟩),.int .i64 h,.map (some dk)] w (Zr dk vars ns (yq vars ns h) w)
def X5(B s b dk:Nat)(O:Nat->Prop)(vars:Nat)(room:Int)(ns:List Nd)(d:Nat):Prop :=
 ∀(h:Int) (v:Nat) (L:List (Int × NV)) (w:World),zm B w s b O vars room ns->qC w dk vars ns L->zg ns h=true->24<=za ns h+d->v<=zQ vars ns h ->
  zC 42 #[.pointer (some ⟨s,0,none⟩),.int .i64 h,.int .i64 v,.map (some dk)] w (Zr dk vars ns (q7 vars ns h v) w)
theorem zaL(vars:Nat)(ns:List Nd)(h:Int)(v:Nat)(hv:vars<=24):q7 vars ns h v<=16777216:=by
 unfold q7;have h1:=zic (sem ns h) (vars-v) v (fun _=>false);have h2:2^(vars-v)<=2^24:=Nat.pow_le_pow_right (by omega) (by omega);have h3:2^24=16777216:=by decide
 omega
section
variable {B s b dk:Nat} {O:Nat->Prop} {vars:Nat} {room:Int} {ns:List Nd}
theorem zbE(hg:zr vars ns)(hl:ns.length<=90000)(hv:vars<=24){d:Nat}(ih:zeb B s b dk O vars room ns d):X5 B s b dk O vars room ns d:=by
 intro h v L w hS hD hh hd hvt;have hi:=yo hh (by omega);have hb1:=below_new w (.cells #[.slice none 0 0] 56);have HT:Hid (∀X,zB w X->zC 64 #[.pointer (some ⟨b,0,none⟩),.int .i64 h] X fun e w'=>e=.returned (.int .i64 (za ns h))/\X=w'):=fun X hX=>KQ (hS.new hX) h hi hl;have SC:Hid (∀X,zB w X->X.cell? ⟨s,0,none⟩=some (.pointer (some ⟨b,0,none⟩))/\X.cell? ⟨s,1,none⟩=some (.int .i64 vars)):=fun X hX=>⟨(hS.new hX).c0,(hS.new hX).c1⟩;have HC:Hid (∀X,zB w X->zC 81 #[.pointer (some ⟨s,0,none⟩),.int .i64 h,.map (some dk)] X (Zr dk vars ns (yq vars ns h) X)):=fun X hX=>ih h L X (hS.new hX) (hD.new hX) hh hd;have h0:=(zY hg.ranked h).1;have htop:min (za ns h) (vars:Int)=(zQ vars ns h:Int):=by unfold zQ;omega
 have hgap:=zc7 hg (h:=h) (zQ vars ns h-v) v (by omega);have hbl:yq vars ns h<=16777216:=zaL vars ns h _ hv;have htl:zQ vars ns h<=24:=by unfold zQ;omega
 have hdl:=hD.lt;have hsl:=hS.slt;have e1:IntKind.i64.wrap ((zQ vars ns h:Int)-(v:Int))=((zQ vars ns h-v:Nat):Int):=by
  rw[show ((zQ vars ns h:Int)-(v:Int))=((zQ vars ns h-v:Nat):Int) by omega];exact IntWalk.i64_in _ ⟨by omega,by omega⟩
 have HGAP:=zH hgap;have HBL:=zH hbl;have HB1:=zH hb1;have hS0:=SC.out _ hb1.drew;have bxl:w.heap.size<(w.alloc (.cells #[.slice none 0 0] 56)).heap.size:=by simp
 have bc:(w.alloc (.cells #[.slice none 0 0] 56)).cell? ⟨w.heap.size,0,none⟩=some (.slice none 0 0):=by simp
 have bf:(w.alloc (.cells #[.slice none 0 0] 56)).frozen? ⟨w.heap.size,0,none⟩=false:=by simp
 have bo:∀o n,(w.alloc (.cells #[.slice none 0 0] 56)).drew.cell? ⟨w.heap.size,o,none⟩≠some (.int .u64 n):=fun o n=>X4 w o n;have BO:=zH bo;clear bo;have HTP:=zH htop;have E1:=zH e1;clear ih hS hD hg hh hgap hbl hb1 htop e1;generalize yq vars ns h=m at *;generalize q7 vars ns h v=r at *;generalize zQ vars ns h=tn at *;generalize za ns h=tp at *;go_enter Tryz.func42,Tryz.ntmps42;go_wp2_with fail;go_region_held3 (fun X=>X.cell? ⟨s,0,none⟩=some (.pointer (some ⟨b,0,none⟩))/\X.cell? ⟨s,1,none⟩=some (.int .i64 vars)) (exact hS0)
  (first|(go_at_call 64;with_reducible refine(HT.out _ HB1.out.drew).mono ?_;rintro e wz ⟨rfl,rfl⟩))
 simp only[HTP.out];have HC1:=zH (HC.out _ HB1.out.drew);have HB2:=zH HB1.out.drew;have bxl2:w.heap.size<(w.alloc (.cells #[.slice none 0 0] 56)).drew.heap.size:=bxl;have bc2:(w.alloc (.cells #[.slice none 0 0] 56)).drew.cell? ⟨w.heap.size,0,none⟩=some (.slice none 0 0):=bc;have bf2:(w.alloc (.cells #[.slice none 0 0] 56)).drew.frozen? ⟨w.heap.size,0,none⟩=false:=bf;clear HC HT SC hS0 HB1 bxl bc bf;generalize (w.alloc (.cells #[.slice none 0 0] 56)).drew=W1 at *;go_wp2_with fail;refine HC1.out.mono ?_;rintro e w2 ⟨v2,L2,rfl,hn2,hD2,hk2⟩;obtain⟨s2,ds2,rfl,hdg,hnm,hvl,hlen⟩:=hn2.open (by have:=HBL.out;omega);have hdo:=zkO s2 ds2 ((tn-v:Nat):Int) w2 hdg hnm (by omega) (by omega) (by omega);rw[hvl] at hdo;have HDO:=zH hdo;have hne:w.heap.size≠dk:=by omega
 have bc3:=(hk2.cell (a:=⟨w.heap.size,0,none⟩) bxl2 hne).trans bc2;have bf3:=(hk2.frozen (a:=⟨w.heap.size,0,none⟩) bxl2 hne).trans bf2;have bxl3:=Nat.lt_of_lt_of_le bxl2 hk2.size;have HKC:Hid (∀o,w2.cell? ⟨w.heap.size,o,none⟩=W1.cell? ⟨w.heap.size,o,none⟩):=fun o=>hk2.cell (a:=⟨w.heap.size,o,none⟩) bxl2 hne;have HK2:=zH ((zb.of_below HB2.out (fun j=>j=dk)).trans hk2);have HD2:=zH hD2;have e2:=E1.out;clear HC1 hn2 hD2 hk2 hdg hnm hvl hlen hdo bc2 bf2 bxl2;go_wp2_with fail;refine HDO.out.mono ?_;rintro e w3 ⟨v3,rfl,ds3,hdg3,hnm3,hvl3,-,hb3⟩;have hnat:=J5 hdg3 hnm3 hvl3;have hmn:(min ((tn-v:Nat):Int) 1000).toNat=tn-v:=by omega
 rw[hmn,<-HGAP.out] at hnat;obtain⟨a3,c3,e3,-⟩:=id hdg3;subst e3;have bc4:=(hb3.cell (p:=⟨w.heap.size,0,none⟩) bxl3).trans bc3;have bf4:=(hb3.frozen (p:=⟨w.heap.size,0,none⟩) bxl3).trans bf3;have hcs:(w3.setCell ⟨w.heap.size,0,none⟩ (.slice a3 ds3.length c3)).cell? ⟨w.heap.size,0,none⟩=some (.slice a3 ds3.length c3):=World.cell?_setCell_same _ _ _ bc4;have hno:∀o n,w3.cell? ⟨w.heap.size,o,none⟩≠some (.int .u64 n):=fun o n=>by
  rw[hb3.cell (p:=⟨w.heap.size,o,none⟩) bxl3,HKC.out o];exact BO.out o n
 have hk3:zb (fun j=>j=dk) w (w3.setCell ⟨w.heap.size,0,none⟩ (.slice a3 ds3.length c3)):=(HK2.out.trans (zb.of_below hb3 _)).andThen (zb.setCell (S:=fun j=>j=w.heap.size) _ _ _ rfl) (fun i hi hlt=>by omega);have HFIN:Hid (Zr dk vars ns r w (.returned (.agg #[.slice a3 ds3.length c3])) (w3.setCell ⟨w.heap.size,0,none⟩ (.slice a3 ds3.length c3))):=⟨_,L2,rfl,hnat.box hno _,(HD2.out.new hb3).box hno hne _,hk3⟩;clear hdg3 hnm3 hvl3 hnat hno hk3 HK2 HD2 HDO hb3 bc3 bf3;go_wp2;refine bodyPost_ret (v:=.agg #[.slice a3 ds3.length c3]) (by simp[results,Tryz.results42,go_sem,hcs]) rfl HFIN.out
end
end Bd
namespace Bd
open Go.RowKit Go.Maps
def Wy.dat(x:Wy):DataW Unit:=.agg [.lit (.int .i64 x.items),.lit (.int .i64 x.cost),.lit (.bool x.can)]
theorem Wy.dat_inj{x y:Wy}(h:x.dat=y.dat):x=y:=by
 obtain⟨a,b,c⟩:=x;obtain⟨d,e,f⟩:=y;simp[Wy.dat] at h ⊢;obtain⟨h1,h2,h3⟩:=h;exact⟨by omega,h2,h3⟩
def ZG(v:Value):Option (DataW Unit × List MemPlace) :=
 match v with
 |.agg cs =>
  match cs.toList with
  |[.int .u64 a,.int .i64 b,.bool c]=>if 0<=a then some (Wy.dat ⟨a.toNat,b,c⟩,[]) else none
  |_=>none
 |_=>none
theorem Kl(x:Wy):ZG x.val=some (x.dat,[]):=by
 unfold ZG Wy.val;simp
theorem zdV{v:Value}{x:Wy}{ps:List MemPlace}(h:ZG v=some (x.dat,ps)):v=x.val:=by
 unfold ZG at h;split at h
 ·rename_i cs;split at h
  ·rename_i a b c e;split at h
   ·rename_i h0;simp only[Option.some.injEq,Prod.mk.injEq] at h;rw[<-Wy.dat_inj h.1];have:cs=#[.int .u64 a,.int .i64 b,.bool c]:=by cases cs;simp at e;rw[e]
    rw[this];unfold Wy.val;simp only[Int.toNat_of_nonneg h0]
   ·cases h
  ·cases h
 ·cases h
theorem zb8(w:World):(zeroValue 136).run Tryz.prog w=.ok (Wy.val ⟨0,0,false⟩) w:=by kernel_rfl
def QW(D:DataW Unit)(L:List (Int × Wy)):Prop:=Rep I64 (fun x=>Lit.int .i64 x) Wy.dat D L
section
variable {w:World} {bm n:Nat} {D:DataW Unit} {L:List (Int × Wy)}
theorem zgo(hD:w.ownsMap Tryz.prog 3 ZG bm n D)(hR:QW D L){p:Int × Wy}(hp:p∈L) :
  (Instr.lookup 183 (.map (some bm)) (.int .i64 p.1) true).run Tryz.prog w=.ok (.tuple #[p.2.val,.bool true]) w:=by
 obtain⟨v,ps,hrun,hv⟩:=hD.look_ok QQ Tryz.underlying183 (zb8 w) (Kl ⟨0,0,false⟩) (QA (Rep.oks hR p hp));rw[Rep.at' hR p hp] at hv;rw[(Rep.has hR p.1 (Rep.oks hR p hp)).2 (List.mem_map_of_mem hp),zdV hv] at hrun;exact hrun
theorem zh0(hD:w.ownsMap Tryz.prog 3 ZG bm n D)(hR:QW D L){a:Int}(ha:I64 a)(hn:a∉L.map Prod.fst) :
  (Instr.lookup 183 (.map (some bm)) (.int .i64 a) true).run Tryz.prog w=.ok (.tuple #[Wy.val ⟨0,0,false⟩,.bool false]) w:=by
 obtain⟨v,ps,hrun,hv⟩:=hD.look_ok QQ Tryz.underlying183 (zb8 w) (Kl ⟨0,0,false⟩) (QA ha);have hh:=Rep.not hR ha hn;rw[atKey_of_not_has hh] at hv;rw[hh,zdV hv] at hrun;exact hrun
theorem zh5(hD:w.ownsMap Tryz.prog 3 ZG bm L.length D)(hR:QW D L)(hl:L.length<1000000){a:Int}(ha:I64 a)(hn:a∉L.map Prod.fst)(x:Wy) :
  ∃w' D',(Instr.mapUpdate 183 (.map (some bm)) (.int .i64 a) x.val).run Tryz.prog w=.ok () w'/\w'.ownsMap Tryz.prog 3 ZG bm (L++[(a,x)]).length D'/\QW D' (L++[(a,x)])/\zb (fun k=>k=bm) w w':=by
 obtain⟨w',hrun,h1,h2⟩:=hD.update QQ Tryz.underlying183 (by unfold maxLen;omega) (QA ha) (Kl x);have hR':QW (D.put (.int .i64 a) x.dat) (L++[(a,x)]):=Rep.put hR (fun a b _ _ e=>by injection e) (fun _=>trivial) ha hn x;exact⟨w',_,hrun,hR'.size▸ZP h1,hR',zb.of_grown h2 (fun i h=>by cases h;rfl)⟩
end
structure ql(C:qt)(w:World)(dk vars:Nat)(ns:List Nd)(L:List (Int × Wy)):Prop where
 hmap:∃D,w.ownsMap Tryz.prog 3 ZG dk L.length D/\QW D L
 keys:∀p∈L,za ns p.1≠24
 vals:∀p∈L,p.2=yi C vars ns p.1
 nodup:(L.map Prod.fst).Nodup
section
variable {C:qt} {w w':World} {dk vars:Nat} {ns:List Nd} {L:List (Int × Wy)}
theorem ql.lt(h:ql C w dk vars ns L):dk<w.heap.size:=by obtain⟨D,hD,-⟩:=h.hmap;exact hD.lt
theorem ql.kept{S:Nat->Prop}(h:ql C w dk vars ns L)(hk:zb S w w')(hn:¬S dk):ql C w' dk vars ns L:=by
 obtain⟨D,hD,hR⟩:=h.hmap;exact⟨⟨D,ZC hD hk hn,hR⟩,h.keys,h.vals,h.nodup⟩
theorem ql.new(h:ql C w dk vars ns L)(hb:zB w w'):ql C w' dk vars ns L:=h.kept (zb.of_below hb (fun _=>False)) (fun h=>h)
theorem ql.len(h:ql C w dk vars ns L):L.length<=ns.length:=by
 have h1:(L.map fun p=>pl p.1).length<=ns.length:=by
  refine QT _ _ ?_ ?_
  ·have:=h.nodup;rw[List.nodup_iff_pairwise_ne,List.pairwise_map] at this ⊢;refine List.Pairwise.imp_of_mem ?_ this;intro a b ha hb hne e;have h1:=yE (h.keys a ha);have h2:=yE (h.keys b hb);apply hne;rw[h1.2.2.2,h2.2.2.2,e]
  ·intro x hx;obtain⟨p,hp,rfl⟩:=List.mem_map.1 hx;exact(yE (h.keys p hp)).2.1
 simpa using h1
end
end Bd
namespace Bd
open Go.RowKit Go.Maps Go.Deep
attribute [local go_sem] Oper.semAt_some
def yV(ns:List Nd)(c:List Int):List Nd × Int:=if qu (zk c)=true then (ns,1) else ya ns (qi (zk c))
section
variable {B s b:Nat} {O:Nat->Prop} {vars:Nat} {room:Int} {ns:List Nd} {w:World}
structure Xv(B:Nat)(w:World)(vars:Nat)(room:Int)(ns:List Nd):Prop where
 r:room<=4000
 l:((2*2^vars+25*vars:Nat):Int)<=room+1
 good:zr vars ns
 v:vars<=10
 cnt:cnt ns+1<=2^vars
 len:ns.length<=2*2^vars+600
 hB:B<=w.heap.size
theorem YW{vars:Nat}(h:vars<=10):2^vars<=1024:=Nat.pow_le_pow_right (by omega) h
theorem JS{ns:List Nd}{w:World}(hr:room<=4000)(hl:((2*2^vars+25*vars:Nat):Int)<=room+1)(h:cnt ns+2^vars<=2*2^vars+25*vars)(hn:ns.length+2^vars<=90000)(hv:vars<=12)(hB:B<=w.heap.size):Z8 B w vars room ns:=⟨hr,Int.le_trans (Int.ofNat_le.2 h) hl,hn,hv,hB⟩
theorem zkE(hS:zm B w s b O vars room ns)(c:List Int)(ha:qu (zk c)=true)(a:Option Addr)(cap:Nat)(hI:qJ w a c)(hm:c.length<=9223372036854775807) :
  zC 89 #[.pointer (some ⟨s,0,none⟩),.slice a c.length cap] w (ym B s b O vars room (ns,1) w):=by
 have k0:=((Blk.new w 46 #[.pointer (some ⟨s,0,none⟩)]).alloc (.cells #[.int .i64 0] 3)).alloc (.cells #[.nilIface] 33);have k1:=(Blk.new (w.alloc (.cells #[.pointer (some ⟨s,0,none⟩)] 46)) 3 #[.int .i64 0]).alloc (.cells #[.nilIface] 33);have k2:=Blk.new ((w.alloc (.cells #[.pointer (some ⟨s,0,none⟩)] 46)).alloc (.cells #[.int .i64 0] 3)) 33 #[.nilIface];simp only[World.size_alloc] at k1 k2;have hbA:zB w (((w.alloc (.cells #[.pointer (some ⟨s,0,none⟩)] 46)).alloc (.cells #[.int .i64 0] 3)).alloc (.cells #[.nilIface] 33)):=(((Below.refl _ w).alloc zN _).alloc (by simp only[World.size_alloc];omega) _).alloc (by simp only[World.size_alloc];omega) _;have hform:=zdq c a cap _ (hI.below hbA) hm;have hfr:Yh c=([],true):=by unfold Yh;rw[if_pos ha]
 rw[hfr] at hform;have HF:=zH hform;have HBA:=zH hbA;have HS:=zH hS;have K1:=zH k1;have K2:=zH k2;clear hform hbA hI hS k0 k1 k2 ha hfr;go_enter Tryz.func89,Tryz.ntmps89;go_wp2_with fail;refine HF.out.mono ?_;rintro e w1 ⟨⟨a1,c1,rfl,-⟩,hb1⟩;have hb2:=zT HBA.out hb1;have j1:=K1.out.below hb1 K1.out.lt;have j2:=K2.out.below hb1 K2.out.lt;have e1:=j1.cell 0;have f1:=j1.frozen 0;have e2:(w1.setCell ⟨w.heap.size+1,0,none⟩ (.int .i64 1)).cell? ⟨w.heap.size+1+1,0,none⟩=some .nilIface:=(j2.other (by omega)).cell 0;have f2:(w1.setCell ⟨w.heap.size+1,0,none⟩ (.int .i64 1)).frozen? ⟨w.heap.size+1+1,0,none⟩=false:=(j2.other (by omega)).frozen 0;have r1:((w1.setCell ⟨w.heap.size+1,0,none⟩ (.int .i64 1)).setCell ⟨w.heap.size+1+1,0,none⟩ .nilIface).cell? ⟨w.heap.size+1,0,none⟩=some (.int .i64 1):=((j1.set (i:=0) (v:=.int .i64 1)).other (by omega)).cell 0;have r2:((w1.setCell ⟨w.heap.size+1,0,none⟩ (.int .i64 1)).setCell ⟨w.heap.size+1+1,0,none⟩ .nilIface).cell? ⟨w.heap.size+1+1,0,none⟩=some .nilIface:=((j2.other (by omega)).set (i:=0) (v:=.nilIface)).cell 0;have HB:Hid (zB w ((w1.setCell ⟨w.heap.size+1,0,none⟩ (.int .i64 1)).setCell ⟨w.heap.size+1+1,0,none⟩ .nilIface)):=(hb2.setCell (p:=⟨w.heap.size+1,0,none⟩) (by show w.heap.size<=w.heap.size+1;omega) _).setCell (p:=⟨w.heap.size+1+1,0,none⟩) (by show w.heap.size<=w.heap.size+1+1;omega) _;clear hb1 hb2 HF j1 j2 K1 K2;go_wp2;refine bodyPost_ret (v:=.tuple #[.int .i64 1,.nilIface]) (by simp[results,Tryz.f89,go_sem,r1,r2]) rfl ?_;exact⟨rfl,O,HS.out.new HB.out,zI.of_below O HB.out⟩
theorem znv(hS:zm B w s b O vars room ns)(hA:Xv B w vars room ns)(c:List Int)(ha:qu (zk c)=false)(hl:zS vars c)(a:Option Addr)(cap:Nat)(hI:qJ w a c)(hm:c.length<=9223372036854775807) :
  CallsIn Fence.wide 4 Tryz.prog 89 #[.pointer (some ⟨s,0,none⟩),.slice a c.length cap] w (ym B s b O vars room (ya ns (qi (zk c))) w):=by
 have k0:=((Blk.new w 46 #[.pointer (some ⟨s,0,none⟩)]).alloc (.cells #[.int .i64 0] 3)).alloc (.cells #[.nilIface] 33);have k1:=(Blk.new (w.alloc (.cells #[.pointer (some ⟨s,0,none⟩)] 46)) 3 #[.int .i64 0]).alloc (.cells #[.nilIface] 33);have k2:=Blk.new ((w.alloc (.cells #[.pointer (some ⟨s,0,none⟩)] 46)).alloc (.cells #[.int .i64 0] 3)) 33 #[.nilIface];simp only[World.size_alloc] at k1 k2;have hbA:zB w (((w.alloc (.cells #[.pointer (some ⟨s,0,none⟩)] 46)).alloc (.cells #[.int .i64 0] 3)).alloc (.cells #[.nilIface] 33)):=(((Below.refl _ w).alloc zN _).alloc (by simp only[World.size_alloc];omega) _).alloc (by simp only[World.size_alloc];omega) _;have hform:=zdq c a cap _ (hI.below hbA) hm;have hfr:Yh c=(qi (zk c),false):=by unfold Yh;rw[if_neg (by rw[ha];simp)]
 rw[hfr] at hform;have hl24:zS 24 c:=fun x hx=>Zl (by have:=hA.v;omega) (hl x hx);have hvar:∀x∈qi (zk c),zM x<vars:=fun x hx=>Ye (hl x ((Qe hl24 ha).1 hx));have hlit:∀x∈qi (zk c),zJ 24 x=true:=fun x hx=>hl24 x ((Qe hl24 ha).1 hx);have hxl:=zcP (show vars<=24 by have:=hA.v;omega) hl;have hroom4:=hA.r;have HROOM:=zH hA.l;generalize qi (zk c)=xs at *;have hp10:=YW hA.v;have hone:=Nat.one_le_two_pow (n:=vars);have hcn:=hA.cnt;have hln:=hA.len;have HEI:Hid (∀ys:List Int,ys.length<=24->(∀x∈ys,zM x<vars)->EiR vars ns ys (ya ns ys)):=fun ys h1 h2=>Xf hA.good (by have:=hA.v;omega) (by omega) (by omega) (by omega) ys (by omega) h2;have HF:=zH (callsIn_wide (n:=3).2 hform);have HBA:=zH hbA;have HS:=zH hS;have HA:=zH hA;have HLIT:=zH hlit;have HVAR:=zH hvar;have K0:=zH k0;have K1:=zH k1;have K2:=zH k2;have hso:=fun k h=>(hS.own k h).2;have hsl:=hS.slt;have hvar0:vars<=10:=hA.v;clear hform hbA hI hS hA k0 k1 k2 ha hfr hl hl24 hvar hlit;refine callsIn_of_wp_marks Tryz.func89 rfl trivial ?_ rfl;simp only[Tryz.ntmps89,List.size_toArray,List.length_cons,List.length_nil,Nat.reduceAdd,Nat.reduceSub,Array.replicate_succ,Array.replicate_zero,List.push_toArray,List.append_toArray,List.nil_append,List.cons_append]
 gi_wp2_with fail
 refine⟨trivial,?_⟩;refine HF.out.mono ?_;rintro e w1 ⟨⟨a1,c1,rfl,hrow⟩,hb1⟩;have hb2:=zT HBA.out hb1;have j0:=K0.out.below hb1 K0.out.lt;have j1:=K1.out.below hb1 K1.out.lt;have j2:=K2.out.below hb1 K2.out.lt;have hw1:=hb1.size;simp only[World.size_alloc] at hw1;clear HF K0 K1 K2 HBA hb1;have HGG:Hid (CallsIn Fence.wide 3 Tryz.prog 126 #[.slice a1 xs.length c1] (w1.alloc (.cells #[.int .i64 0] 3)) fun e w'=>e=.returned (.func (.func 167) #[] #[.pointer (some ⟨w1.heap.size+1,0,none⟩)])/\w'=(w1.alloc (.cells #[.int .i64 0] 3)).alloc (.cells #[.slice a1 xs.length c1] 43)):=by
  have:=zl7 a1 xs.length c1 (w1.alloc (.cells #[.int .i64 0] 3));rw[World.size_alloc] at this;exact this
 gi_wp2_with fail
 refine⟨trivial,?_⟩;refine HGG.out.mono ?_;rintro e w' ⟨rfl,rfl⟩;clear HGG;have l0:=(j0.alloc (.cells #[.int .i64 0] 3)).alloc (.cells #[.slice a1 xs.length c1] 43);have l1:=(j1.alloc (.cells #[.int .i64 0] 3)).alloc (.cells #[.slice a1 xs.length c1] 43);have l2:=(j2.alloc (.cells #[.int .i64 0] 3)).alloc (.cells #[.slice a1 xs.length c1] 43);have l3:=(Blk.new w1 3 #[.int .i64 0]).alloc (.cells #[.slice a1 xs.length c1] 43);have l4:=Blk.new (w1.alloc (.cells #[.int .i64 0] 3)) 43 #[.slice a1 xs.length c1];simp only[World.size_alloc] at l4;have hbB:zB w1 ((w1.alloc (.cells #[.int .i64 0] 3)).alloc (.cells #[.slice a1 xs.length c1] 43)):=((Below.refl _ w1).alloc zN _).alloc (by simp only[World.size_alloc];omega) _;have hsz:((w1.alloc (.cells #[.int .i64 0] 3)).alloc (.cells #[.slice a1 xs.length c1] 43)).heap.size=w1.heap.size+1+1:=by simp only[World.size_alloc]
 have hrow2:=zZ hrow hbB;have hrlt:=hrow.lt;simp only[World.size_alloc] at hrlt;obtain⟨W0,hW0⟩:∃W0,(w1.alloc (.cells #[.int .i64 0] 3)).alloc (.cells #[.slice a1 xs.length c1] 43)=W0:=⟨_,rfl⟩;rw[hW0] at l0 l1 l2 l3 l4 hbB hsz hrow2 ⊢;clear hW0 hrow;have hbW:zB w W0:=zT hb2 hbB;have HSZ:=zH hsz;have hI0:qJ W0 a1 xs:=Kw hrow2;have hO0:∀k,O k->k<W0.heap.size:=fun k h=>by have:=hso k h;omega
 have hQ:∀i,i<xs.length->(zJ 24 (xs.getD i 0)=true/\zM (xs.getD i 0)<vars):=fun i hi=>⟨HLIT.out _ (yR hi),HVAR.out _ (yR hi)⟩;have hst:=zjr (w1.heap.size + 1) (fun k=>k<W0.heap.size/\¬ O k/\k ≠ w1.heap.size) (fun x=>zJ 24 x=true/\zM x<vars) xs a1 c1 (by omega) hQ W0 ⟨by omega,fun h=>by have:=hso _ h;omega,by omega⟩ (fun k h=>h.1) (l4.cell 0) (fun i hi=>by
  obtain⟨ad,e,h1,h2⟩:=hI0 i hi;subst e;have hlt:=hrlt ad.block rfl;exact ⟨ad,rfl,⟨h1,fun h=>by have:=hso _ h;omega,by omega⟩,h2⟩)
 have h0:EI B s b vars room O w1.heap.size W0 ns (yO ([]:List (PQ (fun x=>zJ 24 x=true/\zM x<vars)))) W0:=⟨O,HS.out.new hbW,MM.refl O _ W0,l3.cell 0,l3.frozen 0⟩;have HL0:=zH l0;have HL1:=zH l1;have HL2:=zH l2;have HBW:=zH hbW;have hBw:B<=W0.heap.size:=by have:=HA.out.hB;omega
 clear l0 l1 l2 l3 l4 hrow2 hI0 hbB hb2 j0 j1 j2 hQ hbW hrlt
 gi_wp2_with fail
 refine wpIn_rangeFunc_ownG rfl (by omega) (gf:=167) (lb:=#[.pointer (some ⟨w1.heap.size+1,0,none⟩)]) rfl trivial (enters_of Tryz.func167 (by kernel_rfl) rfl)
  hst Qj (zmn (fun k h=>h.1)) zF (fun _=>rfl)
  (fun pre W=>EI B s b vars room O w1.heap.size W0 ns (yO pre) W) (fun _ _ _=>False)
  (EI.own hO0 (by omega) (by omega) ns) (fun _ _ _ _ _ h _ _=>h)
  h0 (fun x=>{ tmps:=#[.pointer (some ⟨s,0,none⟩),.slice a c.length cap,.pointer (some ⟨w.heap.size,0,none⟩),undef,.pointer (some ⟨w.heap.size+1,0,none⟩),.pointer (some ⟨w.heap.size+1+1,0,none⟩),.slice a1 xs.length c1,.bool false,.pointer (some ⟨w1.heap.size,0,none⟩),undef,.int .i64 x.1.2,undef,undef,.tuple #[.slice a1 xs.length c1,.bool false],.slice a c.length cap,.tuple #[.slice a1 xs.length c1,.bool false],.slice a1 xs.length c1,.bool false,.bool false,.slice a1 xs.length c1,.func (.func 167) #[] #[.pointer (some ⟨w1.heap.size+1,0,none⟩)],.int .i64 x.1.1,.int .i64 x.1.2,undef,undef,undef,undef,undef,undef,undef,undef,undef,undef,undef,undef,undef,undef,undef,undef,undef,undef,undef,undef,undef,undef,undef],defers:=[] }) ?assign ?body ?done ?stop
 case assign =>
  intro l x W K hK;unfold Kr
  gi_wp2
  exact hK
 case stop=>exact fun _ _ _ _ _ _ h _=>h.elim
 case body =>
  rintro l pre x W ⟨O1,hS1,hMM,hc,hf⟩ hlen;obtain⟨hq1,hq2⟩:=x.2;have hyl:=zfC pre;have hE:=HEI.out (yO pre) (by omega) (fun y hy=>(zmY pre y hy).2);have HSN:Hid (ya ns (yO (pre++[x]))=Q5 (ya ns (yO pre)) x.1.2):=by show _=_;rw[zhh];rfl
  have hec:=hE.cnt;have het:=hE.tight;generalize ya ns (yO pre)=st at *;generalize hx:x.1.2=xv at *;have hdm1:¬O1 w1.heap.size:=hMM.beside (by omega) (fun h=>by have:=hso _ h;omega);have hsb1:¬O1 w.heap.size:=hMM.beside (by omega) (fun h=>by have:=hso _ h;omega);have hW0s:=hMM.size;have d0:W.drew.cell? ⟨w.heap.size,0,none⟩=some (.pointer (some ⟨s,0,none⟩)):=(hMM.cell (a:=⟨w.heap.size,0,none⟩) (by show w.heap.size<_;omega) (fun h=>by have:=hso w.heap.size h;omega) (by show w.heap.size≠_;omega)).trans (HL0.out.cell 0);have hbd:zB W W.drew:=zF.drew;have hLc:=zjD (v:=(zM xv:Int)) (is:=decide (0<xv)) (hS1.new hbd) (JS hroom4 HROOM.out (by omega) (by omega) (by omega) (by show B<=W.heap.size;omega)) (by omega) (by omega);have hLF:=zei hE.good (v:=(zM xv:Int)) (decide (0<xv)) (by omega) (by omega) (by omega) (by omega);have hLR:=zdx hE.good hq2 (by omega) (by omega);have HES:Hid (Q5 st xv=xg true (Zn st.1 xv).1 ⟨(Zn st.1 xv).2,1,st.2⟩):=rfl;change Calls _ _ _ _ (ym B s b O1 vars room (Zn st.1 xv) W.drew) at hLc;change cnt (Zn st.1 xv).1<=_/\(Zn st.1 xv).1.length<=_ at hLF;have hOr:Hid (∀O2 X,zm B X s b O2 vars room (Zn st.1 xv).1->B<=X.heap.size->zC 128 #[.pointer (some ⟨s,0,none⟩),.int .i64 (Zn st.1 xv).2,.int .i64 st.2] X (ym B s b O2 vars room (Q5 st xv) X)):=fun O2 X h1 h2=>zif h1 hLR.good (JS hroom4 HROOM.out (by omega) (by omega) (by omega) h2) _ _ hLR.has (hLR.ext.has _ hE.has);generalize Q5 st xv=r2 at *;generalize Zn st.1 xv=r1 at *;have HVC:Hid (∀X:World,CallsIn Fence.wide 1 Tryz.prog 87 #[.int .i64 xv] X fun e w'=>e=.returned (.int .i64 (zM xv))/\X=w'):=fun X=>callsIn_wide.2 (zdA xv hq1 X);have HLC:Hid (CallsIn Fence.wide 1 Tryz.prog 127 #[.pointer (some ⟨s,0,none⟩),.int .i64 (zM xv),.bool (decide (0<xv))] W.drew (ym B s b O1 vars room r1 W.drew)):=callsIn_wide.2 hLc;have hmx:Tryz.prog.follows .mixedOrders=true:=by kernel_rfl
  have HMM:=zH hMM;have hcD:W.drew.cell? ⟨w1.heap.size,0,none⟩=some (.int .i64 st.2):=hc;have HFZ:Hid (W.drew.frozen? ⟨w1.heap.size,0,none⟩=false):=hf;have HCF:Hid (∀k,O1 k->W0.heap.size<=k->qk W.drew k):=fun k h1 h2=>hMM.from hO0 h1 h2;have HKR:Hid (∀k,(k<W0.heap.size/\¬O k/\k≠w1.heap.size)->k<W.heap.size/\¬O1 k):=fun k h=>⟨by omega,hMM.beside h.1 h.2.1⟩;clear hst h0 hLc hE hec het hLF hLR hS1 hMM hc hf HES hbd
  gi_wp2_with fail
  refine zdy hmx ?nd ?any
  case nd =>intro j o h c hc;have hm:=Array.mem_of_getElem? h;simp at hm;rcases hm with rfl|rfl|rfl|rfl|rfl|rfl|rfl|rfl|rfl|rfl|rfl<;>cases hc
  case any =>
   refine wpAnyIn_take (i:=1) (v:=.int .i64 xv) rfl rfl (by kernel_rfl) (by kernel_rfl) (by kernel_rfl) (fun _ _ _ h=>h) ⟨Or.inl ⟨by rfl,by intro w;go_simp⟩,fun _=>rfl⟩ ?_;refine wpAnyIn_take (i:=3) (v:=.int .i64 xv) rfl rfl (by kernel_rfl) (by kernel_rfl) (by kernel_rfl) (fun _ _ _ h=>h) ⟨Or.inl ⟨by rfl,by intro w;go_simp⟩,fun _=>rfl⟩ ?_;refine wpAnyIn_take (i:=4) (v:=.bool (decide (0<xv))) rfl rfl (by kernel_rfl) (by kernel_rfl) (by kernel_rfl) (fun _ _ _ h=>h) ⟨Or.inl ⟨by rfl,by intro w;go_simp⟩,fun _=>rfl⟩ ?_;refine wpAnyIn_ready (rs:=[0,2]) (by kernel_rfl) (by simp) ?_;refine AllReadyIn.cons rfl (fun K hK=>?_) (AllReadyIn.cons rfl (fun K hK=>?_) AllReadyIn.nil)
   ·skip
    go_simp;refine hK _ _ ?_;clear hK K;refine wpAnyIn_ready (rs:=[2]) (by kernel_rfl) (by simp) ?_;refine AllReadyIn.cons rfl (fun K hK=>?_) AllReadyIn.nil;go_simp
    gi_wp2_with (refine⟨trivial,?_⟩;gi_at_call 87;refine(HVC.out _).mono ?_;rintro e wT ⟨rfl,rfl⟩)
    refine wpAnyIn_ready (rs:=[5]) (by kernel_rfl) (by simp) ?_;refine AllReadyIn.cons rfl (fun K hK=>?_) AllReadyIn.nil;go_simp
    gi_wp2_with (refine⟨trivial,?_⟩;gi_at_call 127;refine(HLC.out).mono ?_;rintro e wT ⟨rfl,O2,hS2,hM2⟩)
    refine wpAnyIn_take (i:=6) (v:=.tuple #[.int .i64 r1.2,.nilIface]) rfl rfl (by kernel_rfl) (by kernel_rfl) (by kernel_rfl) (fun _ _ _ h=>h) ⟨Or.inl ⟨by rfl,by intro w;go_simp⟩,fun _=>rfl⟩ ?_;refine wpAnyIn_take (i:=7) (v:=.int .i64 r1.2) rfl rfl (by kernel_rfl) (by kernel_rfl) (by kernel_rfl) (fun _ _ _ h=>h) ⟨Or.inl ⟨by rfl,by intro w;go_simp⟩,fun _=>rfl⟩ ?_;refine wpAnyIn_take (i:=9) (v:=.int .i64 r1.2) rfl rfl (by kernel_rfl) (by kernel_rfl) (by kernel_rfl) (fun _ _ _ h=>h) ⟨Or.inl ⟨by rfl,by intro w;go_simp⟩,fun _=>rfl⟩ ?_;refine wpAnyIn_take (i:=8) (v:=.nilIface) rfl rfl (by kernel_rfl) (by kernel_rfl) (by kernel_rfl) (fun _ _ _ h=>h) ⟨Or.inl ⟨by rfl,by intro w;go_simp⟩,fun _=>rfl⟩ ?_;refine wpAnyIn_take (i:=10) (v:=.nilIface) rfl rfl (by kernel_rfl) (by kernel_rfl) (by kernel_rfl) (fun _ _ _ h=>h) ⟨Or.inl ⟨by rfl,by intro w;go_simp⟩,fun _=>rfl⟩ ?_;refine wpAnyIn_done (by kernel_rfl) ?_ _;have hs2:W.heap.size<=wT.heap.size:=hM2.size;have hbd:zB W W.drew:=zF.drew;have hWlt:w1.heap.size<W.drew.heap.size:=by show w1.heap.size<W.heap.size;omega
    have hwlt:w.heap.size<W.drew.heap.size:=by show w.heap.size<W.heap.size;omega
    have d2:wT.cell? ⟨w.heap.size,0,none⟩=some (.pointer (some ⟨s,0,none⟩)):=(hM2.cell (a:=⟨w.heap.size,0,none⟩) hwlt hsb1).trans d0;have c2:wT.cell? ⟨w1.heap.size,0,none⟩=some (.int .i64 st.2):=(hM2.cell (a:=⟨w1.heap.size,0,none⟩) hWlt hdm1).trans hcD;have hdm2:¬O2 w1.heap.size:=hM2.beside hWlt hdm1;have hOC:=zH (CallsIn.inRound l (callsIn_wide (n:=1).2 (hOr.out O2 wT hS2 (by omega))));have mm1:MM O O1 w1.heap.size W0 W.drew:=HMM.out.trans (MM.of_below hbd);have mm2:=mm1.trans (MM.of_moves (dm:=w1.heap.size) hM2);have HM2:=zH hM2;have HMM2:=zH mm2;have f2:wT.frozen? ⟨w1.heap.size,0,none⟩=false:=(Y3 (a:=⟨w1.heap.size,0,none⟩) (hM2.kept.block w1.heap.size hWlt hdm1)).trans HFZ.out;have HF2:=zH f2;clear hM2 mm2 f2 hS2 d0 hcD HVC HLC
    gi_wp2_with fail
    refine⟨trivial,?_⟩;refine hOC.out.mono ?_;rintro e w3 ⟨rfl,O3,hS3,hM3⟩;have hlt2:w1.heap.size<wT.heap.size:=by omega
    have c3:w3.cell? ⟨w1.heap.size,0,none⟩=some (.int .i64 st.2):=(hM3.cell (a:=⟨w1.heap.size,0,none⟩) hlt2 hdm2).trans c2;have f3:w3.frozen? ⟨w1.heap.size,0,none⟩=false:=(Y3 (a:=⟨w1.heap.size,0,none⟩) (hM3.kept.block w1.heap.size hlt2 hdm2)).trans HF2.out;have hdm3:¬O3 w1.heap.size:=hM3.beside hlt2 hdm2;have HKF:Hid (KeepsFrom W0.heap.size W (w3.setCell ⟨w1.heap.size,0,none⟩ (.int .i64 r2.2))):=((((KeepsOthers.drew W).from _).trans (XH HM2.out HCF.out)).trans (XH hM3 (fun k h1 h2=>HMM2.out.from hO0 h1 h2))).trans ((KeepsOthers.setCell _ _ _).from _);have HKP:Hid (KpR (fun k=>k<W0.heap.size/\¬O k/\k≠w1.heap.size) W (w3.setCell ⟨w1.heap.size,0,none⟩ (.int .i64 r2.2))):=Qj (Qj (Qj (zbZ W) (Ke HM2.out (fun k h=>HKR.out k h))) (Ke hM3 (fun k h=>⟨Nat.lt_of_lt_of_le (HKR.out k h).1 HM2.out.size,HM2.out.beside (HKR.out k h).1 (HKR.out k h).2⟩))) (zfa (fun k h=>h.2.2) _ _);have HEN:Hid (EI B s b vars room O w1.heap.size W0 ns (yO (pre++[x])) (w3.setCell ⟨w1.heap.size,0,none⟩ (.int .i64 r2.2))):=by
     refine⟨O3,?_,(HMM2.out.trans (MM.of_moves (dm:=w1.heap.size) hM3)).set _,?_,?_⟩
     ·rw[HSN.out];exact hS3.kept (zb.setCell (S:=fun j=>j=w1.heap.size) w3 ⟨w1.heap.size,0,none⟩ _ rfl) (fun k hk e=>hdm3 (e▸hk)) (fun e=>by omega)
     ·rw[HSN.out];exact World.cell?_setCell_same _ _ _ c3
     ·rw[World.frozen?_setCell];exact f3
    clear hS3 hM3 hOC HM2 HMM2 c2 d2
    gi_wp2
    exact⟨HKF.out,HKP.out,HEN.out⟩
   ·skip
    go_simp
    gi_wp2_with (refine⟨trivial,?_⟩;gi_at_call 87;refine(HVC.out _).mono ?_;rintro e wT ⟨rfl,rfl⟩)
    refine wpAnyIn_ready (rs:=[0]) (by kernel_rfl) (by simp) ?_;refine AllReadyIn.cons rfl (fun K hK=>?_) AllReadyIn.nil;go_simp;refine hK _ _ ?_;clear hK K;refine wpAnyIn_ready (rs:=[5]) (by kernel_rfl) (by simp) ?_;refine AllReadyIn.cons rfl (fun K hK=>?_) AllReadyIn.nil;go_simp
    gi_wp2_with (refine⟨trivial,?_⟩;gi_at_call 127;refine(HLC.out).mono ?_;rintro e wT ⟨rfl,O2,hS2,hM2⟩)
    refine wpAnyIn_take (i:=6) (v:=.tuple #[.int .i64 r1.2,.nilIface]) rfl rfl (by kernel_rfl) (by kernel_rfl) (by kernel_rfl) (fun _ _ _ h=>h) ⟨Or.inl ⟨by rfl,by intro w;go_simp⟩,fun _=>rfl⟩ ?_;refine wpAnyIn_take (i:=7) (v:=.int .i64 r1.2) rfl rfl (by kernel_rfl) (by kernel_rfl) (by kernel_rfl) (fun _ _ _ h=>h) ⟨Or.inl ⟨by rfl,by intro w;go_simp⟩,fun _=>rfl⟩ ?_;refine wpAnyIn_take (i:=9) (v:=.int .i64 r1.2) rfl rfl (by kernel_rfl) (by kernel_rfl) (by kernel_rfl) (fun _ _ _ h=>h) ⟨Or.inl ⟨by rfl,by intro w;go_simp⟩,fun _=>rfl⟩ ?_;refine wpAnyIn_take (i:=8) (v:=.nilIface) rfl rfl (by kernel_rfl) (by kernel_rfl) (by kernel_rfl) (fun _ _ _ h=>h) ⟨Or.inl ⟨by rfl,by intro w;go_simp⟩,fun _=>rfl⟩ ?_;refine wpAnyIn_take (i:=10) (v:=.nilIface) rfl rfl (by kernel_rfl) (by kernel_rfl) (by kernel_rfl) (fun _ _ _ h=>h) ⟨Or.inl ⟨by rfl,by intro w;go_simp⟩,fun _=>rfl⟩ ?_;refine wpAnyIn_done (by kernel_rfl) ?_ _;have hs2:W.heap.size<=wT.heap.size:=hM2.size;have hbd:zB W W.drew:=zF.drew;have hWlt:w1.heap.size<W.drew.heap.size:=by show w1.heap.size<W.heap.size;omega
    have hwlt:w.heap.size<W.drew.heap.size:=by show w.heap.size<W.heap.size;omega
    have d2:wT.cell? ⟨w.heap.size,0,none⟩=some (.pointer (some ⟨s,0,none⟩)):=(hM2.cell (a:=⟨w.heap.size,0,none⟩) hwlt hsb1).trans d0;have c2:wT.cell? ⟨w1.heap.size,0,none⟩=some (.int .i64 st.2):=(hM2.cell (a:=⟨w1.heap.size,0,none⟩) hWlt hdm1).trans hcD;have hdm2:¬O2 w1.heap.size:=hM2.beside hWlt hdm1;have hOC:=zH (CallsIn.inRound l (callsIn_wide (n:=1).2 (hOr.out O2 wT hS2 (by omega))));have mm1:MM O O1 w1.heap.size W0 W.drew:=HMM.out.trans (MM.of_below hbd);have mm2:=mm1.trans (MM.of_moves (dm:=w1.heap.size) hM2);have HM2:=zH hM2;have HMM2:=zH mm2;have f2:wT.frozen? ⟨w1.heap.size,0,none⟩=false:=(Y3 (a:=⟨w1.heap.size,0,none⟩) (hM2.kept.block w1.heap.size hWlt hdm1)).trans HFZ.out;have HF2:=zH f2;clear hM2 mm2 f2 hS2 d0 hcD HVC HLC
    gi_wp2_with fail
    refine⟨trivial,?_⟩;refine hOC.out.mono ?_;rintro e w3 ⟨rfl,O3,hS3,hM3⟩;have hlt2:w1.heap.size<wT.heap.size:=by omega
    have c3:w3.cell? ⟨w1.heap.size,0,none⟩=some (.int .i64 st.2):=(hM3.cell (a:=⟨w1.heap.size,0,none⟩) hlt2 hdm2).trans c2;have f3:w3.frozen? ⟨w1.heap.size,0,none⟩=false:=(Y3 (a:=⟨w1.heap.size,0,none⟩) (hM3.kept.block w1.heap.size hlt2 hdm2)).trans HF2.out;have hdm3:¬O3 w1.heap.size:=hM3.beside hlt2 hdm2;have HKF:Hid (KeepsFrom W0.heap.size W (w3.setCell ⟨w1.heap.size,0,none⟩ (.int .i64 r2.2))):=((((KeepsOthers.drew W).from _).trans (XH HM2.out HCF.out)).trans (XH hM3 (fun k h1 h2=>HMM2.out.from hO0 h1 h2))).trans ((KeepsOthers.setCell _ _ _).from _);have HKP:Hid (KpR (fun k=>k<W0.heap.size/\¬O k/\k≠w1.heap.size) W (w3.setCell ⟨w1.heap.size,0,none⟩ (.int .i64 r2.2))):=Qj (Qj (Qj (zbZ W) (Ke HM2.out (fun k h=>HKR.out k h))) (Ke hM3 (fun k h=>⟨Nat.lt_of_lt_of_le (HKR.out k h).1 HM2.out.size,HM2.out.beside (HKR.out k h).1 (HKR.out k h).2⟩))) (zfa (fun k h=>h.2.2) _ _);have HEN:Hid (EI B s b vars room O w1.heap.size W0 ns (yO (pre++[x])) (w3.setCell ⟨w1.heap.size,0,none⟩ (.int .i64 r2.2))):=by
     refine⟨O3,?_,(HMM2.out.trans (MM.of_moves (dm:=w1.heap.size) hM3)).set _,?_,?_⟩
     ·rw[HSN.out];exact hS3.kept (zb.setCell (S:=fun j=>j=w1.heap.size) w3 ⟨w1.heap.size,0,none⟩ _ rfl) (fun k hk e=>hdm3 (e▸hk)) (fun e=>by omega)
     ·rw[HSN.out];exact World.cell?_setCell_same _ _ _ c3
     ·rw[World.frozen?_setCell];exact f3
    clear hS3 hM3 hOC HM2 HMM2 c2 d2
    gi_wp2
    exact⟨HKF.out,HKP.out,HEN.out⟩
 case done =>
  rintro D ys WF hD hys ⟨O1,hS1,hMM,hc,hf⟩ hK;rw[znM hys] at hS1 hc;have hK1:=Xa hK rfl;have hszW:=hMM.size;have g1:WF.cell? ⟨w.heap.size+1,0,none⟩=some (.int .i64 0):=(hMM.cell (a:=⟨w.heap.size+1,0,none⟩) (by show w.heap.size+1<_;omega) (fun h=>by have:=hso (w.heap.size+1) h;omega) (by show w.heap.size+1≠_;omega)).trans (HL1.out.cell 0);have g2:WF.cell? ⟨w.heap.size+1+1,0,none⟩=some .nilIface:=(hMM.cell (a:=⟨w.heap.size+1+1,0,none⟩) (by show w.heap.size+1+1<_;omega) (fun h=>by have:=hso (w.heap.size+1+1) h;omega) (by show w.heap.size+1+1≠_;omega)).trans (HL2.out.cell 0);have e1:WF.frozen? ⟨w.heap.size+1,0,none⟩=false:=(hMM.frozen (a:=⟨w.heap.size+1,0,none⟩) (by show w.heap.size+1<_;omega) (fun h=>by have:=hso (w.heap.size+1) h;omega) (by show w.heap.size+1≠_;omega)).trans (HL1.out.frozen 0);have e2:(WF.setCell ⟨w.heap.size+1,0,none⟩ (.int .i64 (ya ns xs).2)).frozen? ⟨w.heap.size+1+1,0,none⟩=false:=by
   rw[World.frozen?_setCell];exact(hMM.frozen (a:=⟨w.heap.size+1+1,0,none⟩) (by show w.heap.size+1+1<_;omega) (fun h=>by have:=hso (w.heap.size+1+1) h;omega) (by show w.heap.size+1+1≠_;omega)).trans (HL2.out.frozen 0)
  have g3:(WF.setCell ⟨w.heap.size+1,0,none⟩ (.int .i64 (ya ns xs).2)).cell? ⟨w.heap.size+1+1,0,none⟩=some .nilIface:=(World.cell?_setCell_other _ _ _ _ (by intro h;injection h;omega)).trans g2;obtain⟨W9,hW9⟩:∃W9,(WF.setCell ⟨w.heap.size+1,0,none⟩ (.int .i64 (ya ns xs).2)).setCell ⟨w.heap.size+1+1,0,none⟩ .nilIface=W9:=⟨_,rfl⟩;have r1:W9.cell? ⟨w.heap.size+1,0,none⟩=some (.int .i64 (ya ns xs).2):=by rw[<-hW9];exact(World.cell?_setCell_other _ _ _ _ (by intro h;injection h;omega)).trans (World.cell?_setCell_same _ _ _ g1)
  have r2:W9.cell? ⟨w.heap.size+1+1,0,none⟩=some .nilIface:=by rw[<-hW9];exact World.cell?_setCell_same _ _ _ g3
  have hK9:W9.heap[D]?=some (.deferred (some [])):=by rw[<-hW9];exact((KeepsOthers.setCell _ _ _).trans (KeepsOthers.setCell _ _ _)).same D _ hK rfl
  have hkp9:zb (fun k=>k=w.heap.size+1\/k=w.heap.size+1+1) WF W9:=by rw[<-hW9];exact(zb.setCell WF ⟨w.heap.size+1,0,none⟩ _ (.inl rfl)).andThen (zb.setCell _ ⟨w.heap.size+1+1,0,none⟩ _ (.inr rfl:(fun k=>k=w.heap.size+1\/k=w.heap.size+1+1) (w.heap.size+1+1))) (fun i h _=>h)
  have hc9:∀k,qk WF k->qk W9 k:=fun k h=>by rw[<-hW9];exact zau (zau h _ _) _ _
  have hnD:¬qk W9 D:=Xa hK9 rfl;have r1p:(W9.putObj D (.deferred none)).cell? ⟨w.heap.size+1,0,none⟩=some (.int .i64 (ya ns xs).2):=(Jr (a:=⟨w.heap.size+1,0,none⟩) (World.putObj_heap_other (by show w.heap.size+1≠D;omega))).trans r1;have r2p:(W9.putObj D (.deferred none)).cell? ⟨w.heap.size+1+1,0,none⟩=some .nilIface:=(Jr (a:=⟨w.heap.size+1+1,0,none⟩) (World.putObj_heap_other (by show w.heap.size+1+1≠D;omega))).trans r2;have hkpD:zb (fun k=>k=D) W9 (W9.putObj D (.deferred none)):=zb.of_grown (grownBy_putObj' W9 D _) (fun i e=>by cases e;rfl);have hO1:∀k,k<W0.heap.size->¬O k->¬O1 k:=fun k h1 h2=>hMM.beside h1 h2;have hD1:¬O1 D:=hMM.out hO0 hD hK1;have HFS:Hid (zm B (W9.putObj D (.deferred none)) s b O1 vars room (ya ns xs).1):=(hS1.kept hkp9 (fun k hk e=>by
   rcases e with rfl|rfl
   ·exact hO1 _ (by omega) (fun h=>by have:=hso _ h;omega) hk
   ·exact hO1 _ (by omega) (fun h=>by have:=hso _ h;omega) hk) (fun e=>by omega)).kept hkpD (fun k hk e=>hD1 (e ▸ hk)) (fun e=>by omega)
  have HFM:Hid (zI O O1 w (W9.putObj D (.deferred none))):=zhk HBW.out (by omega) hMM ((hkp9.mono (T:=fun k=>w.heap.size<=k) (fun i h=>by show w.heap.size<=i;omega)).andThen hkpD (fun i e _=>by show w.heap.size<=i;omega)) (fun k h=>zir (hc9 k h) hnD _);have HK9:=zH hK9;have HW9:=zH hW9;clear hS1 hMM hK hK1 hK9 hkp9 hkpD hc9 hnD hO1 hD1 hst h0 hf hW9
  gi_wp2_with fail
  rw[HW9.out];refine⟨by simp,.inl ⟨_,_,rfl,run_takeDeferred HK9.out,?_⟩⟩;refine⟨.tuple #[.int .i64 (ya ns xs).2,.nilIface],?_,?_⟩
  ·simp[results,Tryz.f89,go_sem,r1p,r2p]
  ·exact⟨rfl,O1,HFS.out,HFM.out⟩
theorem zkN(hS:zm B w s b O vars room ns)(hA:Xv B w vars room ns)(c:List Int)(hl:zS vars c)(a:Option Addr)(cap:Nat)(hI:qJ w a c)(hm:c.length<=9223372036854775807) :
  zC 89 #[.pointer (some ⟨s,0,none⟩),.slice a c.length cap] w (ym B s b O vars room (yV ns c) w):=by
 unfold yV;cases ha:qu (zk c) with
 |true=>rw[if_pos rfl];exact zkE hS c ha a cap hI hm
 |false=>rw[if_neg (by simp)];exact(callsIn_wide (n:=4)).1 (znv hS hA c ha hl a cap hI hm)
end
end Bd
end Go.Proofs.YtjmfeefogikdfaaGreatDoor
