/- space: narrowed, Clauses. -/
import Derived.Test.YtiihalknffbjpaaGreatDoorBdWays
import Derived.Deep.RegionHeldLaw
namespace Go.Proofs.YtiihalknffbjpaaGreatDoor
set_option maxHeartbeats 4000000
set_option maxRecDepth 100000
namespace Bd
open Go.RowKit Go.Maps
def Wy.dat(x:Wy):DataW Unit:=.agg [.lit (.int .i64 x.items),.lit (.int .i64 x.cost),.lit (.bool x.can)]
theorem Wy.dat_inj{x y:Wy}(h:x.dat=y.dat):x=y:=by
 obtain⟨a,b,c⟩:=x;obtain⟨d,e,f⟩:=y;simp[Wy.dat] at h ⊢;obtain⟨h1,h2,h3⟩:=h;exact⟨by omega,h2,h3⟩
def zrv(v:Value):Option (DataW Unit × List MemPlace) :=
 match v with
 |.agg cs =>
  match cs.toList with
  |[.int .u64 a,.int .i64 b,.bool c]=>if 0<=a then some (Wy.dat ⟨a.toNat,b,c⟩,[]) else none
  |_=>none
 |_=>none
theorem zf9(x:Wy):zrv x.val=some (x.dat,[]):=by
 unfold zrv Wy.val;simp
theorem zml{v:Value}{x:Wy}{ps:List MemPlace}(h:zrv v=some (x.dat,ps)):v=x.val:=by
 unfold zrv at h;split at h
 ·rename_i cs;split at h
  ·rename_i a b c e;split at h
   ·rename_i h0;simp only[Option.some.injEq,Prod.mk.injEq] at h;rw[<-Wy.dat_inj h.1];have:cs=#[.int .u64 a,.int .i64 b,.bool c]:=by cases cs;simp at e;rw[e]
    rw[this];unfold Wy.val;simp only[Int.toNat_of_nonneg h0]
   ·cases h
  ·cases h
 ·cases h
theorem zqU(w:World):(zeroValue 279).run Tryz.prog w=.ok (Wy.val ⟨0,0,false⟩) w:=by kernel_rfl
def zuH(D:DataW Unit)(L:List (Int × Wy)):Prop:=Rep I64 (fun x=>Lit.int .i64 x) Wy.dat D L
section
variable {w:World} {bm n:Nat} {D:DataW Unit} {L:List (Int × Wy)}
theorem zlD(hD:w.ownsMap Tryz.prog 3 zrv bm n D)(hR:zuH D L){p:Int × Wy}(hp:p∈L) :
  (Instr.lookup 355 (.map (some bm)) (.int .i64 p.1) true).run Tryz.prog w=.ok (.tuple #[p.2.val,.bool true]) w:=by
 obtain⟨v,ps,hrun,hv⟩:=hD.look_ok zwk Tryz.underlying355 (zqU w) (zf9 ⟨0,0,false⟩) (zvf (Rep.oks hR p hp));rw[Rep.at' hR p hp] at hv;rw[(Rep.has hR p.1 (Rep.oks hR p hp)).2 (List.mem_map_of_mem hp),zml hv] at hrun;exact hrun
theorem zn4(hD:w.ownsMap Tryz.prog 3 zrv bm n D)(hR:zuH D L){a:Int}(ha:I64 a)(hn:a∉L.map Prod.fst) :
  (Instr.lookup 355 (.map (some bm)) (.int .i64 a) true).run Tryz.prog w=.ok (.tuple #[Wy.val ⟨0,0,false⟩,.bool false]) w:=by
 obtain⟨v,ps,hrun,hv⟩:=hD.look_ok zwk Tryz.underlying355 (zqU w) (zf9 ⟨0,0,false⟩) (zvf ha);have hh:=Rep.not hR ha hn;rw[atKey_of_not_has hh] at hv;rw[hh,zml hv] at hrun;exact hrun
theorem zwK(hD:w.ownsMap Tryz.prog 3 zrv bm L.length D)(hR:zuH D L)(hl:L.length<1000000){a:Int}(ha:I64 a)(hn:a∉L.map Prod.fst)(x:Wy) :
  ∃w' D',(Instr.mapUpdate 355 (.map (some bm)) (.int .i64 a) x.val).run Tryz.prog w=.ok () w'/\w'.ownsMap Tryz.prog 3 zrv bm (L++[(a,x)]).length D'/\zuH D' (L++[(a,x)])/\zah (fun k=>k=bm) w w':=by
 obtain⟨w',hrun,h1,h2⟩:=hD.update zwk Tryz.underlying355 (by unfold maxLen;omega) (zvf ha) (zf9 x);have hR':zuH (D.put (.int .i64 a) x.dat) (L++[(a,x)]):=Rep.put hR (fun a b _ _ e=>by injection e) (fun _=>trivial) ha hn x;exact⟨w',_,hrun,hR'.size▸zaN h1,hR',zah.of_grown h2 (fun i h=>by cases h;rfl)⟩
end
structure zdE(C:zej)(w:World)(dk vars:Nat)(ns:List Nd)(L:List (Int × Wy)):Prop where
 hmap:∃D,w.ownsMap Tryz.prog 3 zrv dk L.length D/\zuH D L
 keys:∀p∈L,zaa ns p.1≠24
 vals:∀p∈L,p.2=zbB C vars ns p.1
 nodup:(L.map Prod.fst).Nodup
section
variable {C:zej} {w w':World} {dk vars:Nat} {ns:List Nd} {L:List (Int × Wy)}
theorem zdE.lt(h:zdE C w dk vars ns L):dk<w.heap.size:=by obtain⟨D,hD,-⟩:=h.hmap;exact hD.lt
theorem zdE.kept{S:Nat->Prop}(h:zdE C w dk vars ns L)(hk:zah S w w')(hn:¬S dk):zdE C w' dk vars ns L:=by
 obtain⟨D,hD,hR⟩:=h.hmap;exact⟨⟨D,zaV hD hk hn,hR⟩,h.keys,h.vals,h.nodup⟩
theorem zdE.new(h:zdE C w dk vars ns L)(hb:zB w w'):zdE C w' dk vars ns L:=h.kept (zah.of_below hb (fun _=>False)) (fun h=>h)
theorem zdE.len(h:zdE C w dk vars ns L):L.length<=ns.length:=by
 have h1:(L.map fun p=>pl p.1).length<=ns.length:=by
  refine zih _ _ ?_ ?_
  ·have:=h.nodup;rw[List.nodup_iff_pairwise_ne,List.pairwise_map] at this ⊢;refine List.Pairwise.imp_of_mem ?_ this;intro a b ha hb hne e;have h1:=zbq (h.keys a ha);have h2:=zbq (h.keys b hb);apply hne;rw[h1.2.2.2,h2.2.2.2,e]
  ·intro x hx;obtain⟨p,hp,rfl⟩:=List.mem_map.1 hx;exact(zbq (h.keys p hp)).2.1
 simpa using h1
end
end Bd
namespace Bd
open Go.RowKit Go.Maps Go.Deep
attribute [local go_sem] Oper.semAt_some
def zdy(ns:List Nd)(c:List Int):List Nd × Int:=if zaB (zai c)=true then (ns,1) else zcD ns (zaz (zai c))
section
variable {B s b:Nat} {O:Nat->Prop} {vars:Nat} {room:Int} {ns:List Nd} {w:World}
structure zwz(B:Nat)(w:World)(vars:Nat)(room:Int)(ns:List Nd):Prop where
 r:room<=4000
 l:((2*2^vars+25*vars:Nat):Int)<=room+1
 good:zcq vars ns
 v:vars<=10
 cnt:cnt ns+1<=2^vars
 len:ns.length<=2*2^vars+600
 hB:B<=w.heap.size
theorem zoZ{vars:Nat}(h:vars<=10):2^vars<=1024:=Nat.pow_le_pow_right (by omega) h
theorem zlj{ns:List Nd}{w:World}(hr:room<=4000)(hl:((2*2^vars+25*vars:Nat):Int)<=room+1)(h:cnt ns+2^vars<=2*2^vars+25*vars)(hn:ns.length+2^vars<=90000)(hv:vars<=12)(hB:B<=w.heap.size):ztZ B w vars room ns:=⟨hr,Int.le_trans (Int.ofNat_le.2 h) hl,hn,hv,hB⟩
theorem ziw(hS:zag B w s b O vars room ns)(c:List Int)(ha:zaB (zai c)=true)(a:Option Addr)(cap:Nat)(hI:zbu w a c)(hm:c.length<=9223372036854775807) :
  zC 224 #[.pointer (some ⟨s,0,none⟩),.slice a c.length cap] w (zcS B s b O vars room (ns,1) w):=by
 have k0:=((Blk.new w 35 #[.pointer (some ⟨s,0,none⟩)]).alloc (.cells #[.int .i64 0] 3)).alloc (.cells #[.nilIface] 31);have k1:=(Blk.new (w.alloc (.cells #[.pointer (some ⟨s,0,none⟩)] 35)) 3 #[.int .i64 0]).alloc (.cells #[.nilIface] 31);have k2:=Blk.new ((w.alloc (.cells #[.pointer (some ⟨s,0,none⟩)] 35)).alloc (.cells #[.int .i64 0] 3)) 31 #[.nilIface];simp only[World.size_alloc] at k1 k2;have hbA:zB w (((w.alloc (.cells #[.pointer (some ⟨s,0,none⟩)] 35)).alloc (.cells #[.int .i64 0] 3)).alloc (.cells #[.nilIface] 31)):=(((Below.refl _ w).alloc zN _).alloc (by simp only[World.size_alloc];omega) _).alloc (by simp only[World.size_alloc];omega) _;have hform:=zma c a cap _ (hI.below hbA) hm;have hfr:znY c=([],true):=by unfold znY;rw[if_pos ha]
 rw[hfr] at hform;have HF:=zH hform;have HBA:=zH hbA;have HS:=zH hS;have K1:=zH k1;have K2:=zH k2;clear hform hbA hI hS k0 k1 k2 ha hfr;go_enter Tryz.func224,Tryz.ntmps224;go_wp2_with fail;refine HF.out.mono ?_;rintro e w1 ⟨⟨a1,c1,rfl,-⟩,hb1⟩;have hb2:=zT HBA.out hb1;have j1:=K1.out.below hb1 K1.out.lt;have j2:=K2.out.below hb1 K2.out.lt;have e1:=j1.cell 0;have f1:=j1.frozen 0;have e2:(w1.setCell ⟨w.heap.size+1,0,none⟩ (.int .i64 1)).cell? ⟨w.heap.size+1+1,0,none⟩=some .nilIface:=(j2.other (by omega)).cell 0;have f2:(w1.setCell ⟨w.heap.size+1,0,none⟩ (.int .i64 1)).frozen? ⟨w.heap.size+1+1,0,none⟩=false:=(j2.other (by omega)).frozen 0;have r1:((w1.setCell ⟨w.heap.size+1,0,none⟩ (.int .i64 1)).setCell ⟨w.heap.size+1+1,0,none⟩ .nilIface).cell? ⟨w.heap.size+1,0,none⟩=some (.int .i64 1):=((j1.set (i:=0) (v:=.int .i64 1)).other (by omega)).cell 0;have r2:((w1.setCell ⟨w.heap.size+1,0,none⟩ (.int .i64 1)).setCell ⟨w.heap.size+1+1,0,none⟩ .nilIface).cell? ⟨w.heap.size+1+1,0,none⟩=some .nilIface:=((j2.other (by omega)).set (i:=0) (v:=.nilIface)).cell 0;have HB:Hid (zB w ((w1.setCell ⟨w.heap.size+1,0,none⟩ (.int .i64 1)).setCell ⟨w.heap.size+1+1,0,none⟩ .nilIface)):=(hb2.setCell (p:=⟨w.heap.size+1,0,none⟩) (by show w.heap.size<=w.heap.size+1;omega) _).setCell (p:=⟨w.heap.size+1+1,0,none⟩) (by show w.heap.size<=w.heap.size+1+1;omega) _;clear hb1 hb2 HF j1 j2 K1 K2;go_wp2;refine bodyPost_ret (v:=.tuple #[.int .i64 1,.nilIface]) (by simp[results,Tryz.f224,go_sem,r1,r2]) rfl ?_;exact⟨rfl,O,HS.out.new HB.out,za3.of_below O HB.out⟩
theorem zpe(hS:zag B w s b O vars room ns)(hA:zwz B w vars room ns)(c:List Int)(ha:zaB (zai c)=false)(hl:zfS vars c)(a:Option Addr)(cap:Nat)(hI:zbu w a c)(hm:c.length<=9223372036854775807) :
  CallsIn Fence.wide 4 Tryz.prog 224 #[.pointer (some ⟨s,0,none⟩),.slice a c.length cap] w (zcS B s b O vars room (zcD ns (zaz (zai c))) w):=by
 have k0:=((Blk.new w 35 #[.pointer (some ⟨s,0,none⟩)]).alloc (.cells #[.int .i64 0] 3)).alloc (.cells #[.nilIface] 31);have k1:=(Blk.new (w.alloc (.cells #[.pointer (some ⟨s,0,none⟩)] 35)) 3 #[.int .i64 0]).alloc (.cells #[.nilIface] 31);have k2:=Blk.new ((w.alloc (.cells #[.pointer (some ⟨s,0,none⟩)] 35)).alloc (.cells #[.int .i64 0] 3)) 31 #[.nilIface];simp only[World.size_alloc] at k1 k2;have hbA:zB w (((w.alloc (.cells #[.pointer (some ⟨s,0,none⟩)] 35)).alloc (.cells #[.int .i64 0] 3)).alloc (.cells #[.nilIface] 31)):=(((Below.refl _ w).alloc zN _).alloc (by simp only[World.size_alloc];omega) _).alloc (by simp only[World.size_alloc];omega) _;have hform:=zma c a cap _ (hI.below hbA) hm;have hfr:znY c=(zaz (zai c),false):=by unfold znY;rw[if_neg (by rw[ha];simp)]
 rw[hfr] at hform;have hl24:zfS 24 c:=fun x hx=>zgE (by have:=hA.v;omega) (hl x hx);have hvar:∀x∈zaz (zai c),zcW x<vars:=fun x hx=>zfs (hl x ((zdl hl24 ha).1 hx));have hlit:∀x∈zaz (zai c),zi0 24 x=true:=fun x hx=>hl24 x ((zdl hl24 ha).1 hx);have hxl:=zfH (show vars<=24 by have:=hA.v;omega) hl;have hroom4:=hA.r;have HROOM:=zH hA.l;generalize zaz (zai c)=xs at *;have hp10:=zoZ hA.v;have hone:=Nat.one_le_two_pow (n:=vars);have hcn:=hA.cnt;have hln:=hA.len;have HEI:Hid (∀ys:List Int,ys.length<=24->(∀x∈ys,zcW x<vars)->EiR vars ns ys (zcD ns ys)):=fun ys h1 h2=>zg3 hA.good (by have:=hA.v;omega) (by omega) (by omega) (by omega) ys (by omega) h2;have HF:=zH (callsIn_wide (n:=3).2 hform);have HBA:=zH hbA;have HS:=zH hS;have HA:=zH hA;have HLIT:=zH hlit;have HVAR:=zH hvar;have K0:=zH k0;have K1:=zH k1;have K2:=zH k2;have hso:=fun k h=>(hS.own k h).2;have hsl:=hS.slt;have hvar0:vars<=10:=hA.v;clear hform hbA hI hS hA k0 k1 k2 ha hfr hl hl24 hvar hlit;refine callsIn_of_wp_marks Tryz.func224 rfl trivial ?_ rfl;simp only[Tryz.ntmps224,List.size_toArray,List.length_cons,List.length_nil,Nat.reduceAdd,Nat.reduceSub,Array.replicate_succ,Array.replicate_zero,List.push_toArray,List.append_toArray,List.nil_append,List.cons_append]
 gi_wp2_with fail
 refine⟨trivial,?_⟩;refine HF.out.mono ?_;rintro e w1 ⟨⟨a1,c1,rfl,hrow⟩,hb1⟩;have hb2:=zT HBA.out hb1;have j0:=K0.out.below hb1 K0.out.lt;have j1:=K1.out.below hb1 K1.out.lt;have j2:=K2.out.below hb1 K2.out.lt;have hw1:=hb1.size;simp only[World.size_alloc] at hw1;clear HF K0 K1 K2 HBA hb1;have HGG:Hid (CallsIn Fence.wide 3 Tryz.prog 283 #[.slice a1 xs.length c1] (w1.alloc (.cells #[.int .i64 0] 3)) fun e w'=>e=.returned (.func (.func 321) #[] #[.pointer (some ⟨w1.heap.size+1,0,none⟩)])/\w'=(w1.alloc (.cells #[.int .i64 0] 3)).alloc (.cells #[.slice a1 xs.length c1] 81)):=by
  have:=zuk a1 xs.length c1 (w1.alloc (.cells #[.int .i64 0] 3));rw[World.size_alloc] at this;exact this
 gi_wp2_with fail
 refine⟨trivial,?_⟩;refine HGG.out.mono ?_;rintro e w' ⟨rfl,rfl⟩;clear HGG;have l0:=(j0.alloc (.cells #[.int .i64 0] 3)).alloc (.cells #[.slice a1 xs.length c1] 81);have l1:=(j1.alloc (.cells #[.int .i64 0] 3)).alloc (.cells #[.slice a1 xs.length c1] 81);have l2:=(j2.alloc (.cells #[.int .i64 0] 3)).alloc (.cells #[.slice a1 xs.length c1] 81);have l3:=(Blk.new w1 3 #[.int .i64 0]).alloc (.cells #[.slice a1 xs.length c1] 81);have l4:=Blk.new (w1.alloc (.cells #[.int .i64 0] 3)) 81 #[.slice a1 xs.length c1];simp only[World.size_alloc] at l4;have hbB:zB w1 ((w1.alloc (.cells #[.int .i64 0] 3)).alloc (.cells #[.slice a1 xs.length c1] 81)):=((Below.refl _ w1).alloc zN _).alloc (by simp only[World.size_alloc];omega) _;have hsz:((w1.alloc (.cells #[.int .i64 0] 3)).alloc (.cells #[.slice a1 xs.length c1] 81)).heap.size=w1.heap.size+1+1:=by simp only[World.size_alloc]
 have hrow2:=zaf hrow hbB;have hrlt:=hrow.lt;simp only[World.size_alloc] at hrlt;obtain⟨W0,hW0⟩:∃W0,(w1.alloc (.cells #[.int .i64 0] 3)).alloc (.cells #[.slice a1 xs.length c1] 81)=W0:=⟨_,rfl⟩;rw[hW0] at l0 l1 l2 l3 l4 hbB hsz hrow2 ⊢;clear hW0 hrow;have hbW:zB w W0:=zT hb2 hbB;have HSZ:=zH hsz;have hI0:zbu W0 a1 xs:=zeM hrow2;have hO0:∀k,O k->k<W0.heap.size:=fun k h=>by have:=hso k h;omega
 have hQ:∀i,i<xs.length->(zi0 24 (xs.getD i 0)=true/\zcW (xs.getD i 0)<vars):=fun i hi=>⟨HLIT.out _ (zbL hi),HVAR.out _ (zbL hi)⟩;have hst:=znh (w1.heap.size + 1) (fun k=>k<W0.heap.size/\¬ O k/\k ≠ w1.heap.size) (fun x=>zi0 24 x=true/\zcW x<vars) xs a1 c1 (by omega) hQ W0 ⟨by omega,fun h=>by have:=hso _ h;omega,by omega⟩ (fun k h=>h.1) (l4.cell 0) (fun i hi=>by
  obtain⟨ad,e,h1,h2⟩:=hI0 i hi;subst e;have hlt:=hrlt ad.block rfl;exact ⟨ad,rfl,⟨h1,fun h=>by have:=hso _ h;omega,by omega⟩,h2⟩)
 have h0:EI B s b vars room O w1.heap.size W0 ns (zdA ([]:List (PQ (fun x=>zi0 24 x=true/\zcW x<vars)))) W0:=⟨O,HS.out.new hbW,MM.refl O _ W0,l3.cell 0,l3.frozen 0⟩;have HL0:=zH l0;have HL1:=zH l1;have HL2:=zH l2;have HBW:=zH hbW;have hBw:B<=W0.heap.size:=by have:=HA.out.hB;omega
 clear l0 l1 l2 l3 l4 hrow2 hI0 hbB hb2 j0 j1 j2 hQ hbW hrlt
 gi_wp2_with fail
 refine wpIn_rangeFunc_ownG rfl (by omega) (gf:=321) (lb:=#[.pointer (some ⟨w1.heap.size+1,0,none⟩)]) rfl trivial (enters_of Tryz.func321 (by kernel_rfl) rfl)
  hst zj1 (zxz (fun k h=>h.1)) zF (fun _=>rfl)
  (fun pre W=>EI B s b vars room O w1.heap.size W0 ns (zdA pre) W) (fun _ _ _=>False)
  (EI.own hO0 (by omega) (by omega) ns) (fun _ _ _ _ _ h _ _=>h)
  h0 (fun x=>{ tmps:=#[.pointer (some ⟨s,0,none⟩),.slice a c.length cap,.pointer (some ⟨w.heap.size,0,none⟩),undef,.pointer (some ⟨w.heap.size+1,0,none⟩),.pointer (some ⟨w.heap.size+1+1,0,none⟩),.slice a1 xs.length c1,.bool false,.pointer (some ⟨w1.heap.size,0,none⟩),undef,.int .i64 x.1.2,undef,undef,.tuple #[.slice a1 xs.length c1,.bool false],.slice a c.length cap,.tuple #[.slice a1 xs.length c1,.bool false],.slice a1 xs.length c1,.bool false,.bool false,.slice a1 xs.length c1,.func (.func 321) #[] #[.pointer (some ⟨w1.heap.size+1,0,none⟩)],.int .i64 x.1.1,.int .i64 x.1.2,undef,undef,undef,undef,undef,undef,undef,undef,undef,undef,undef,undef,undef,undef,undef,undef,undef,undef,undef,undef,undef,undef,undef],defers:=[] }) ?assign ?body ?done ?stop
 case assign =>
  intro l x W K hK;unfold zxx
  gi_wp2
  exact hK
 case stop=>exact fun _ _ _ _ _ _ h _=>h.elim
 case body =>
  rintro l pre x W ⟨O1,hS1,hMM,hc,hf⟩ hlen;obtain⟨hq1,hq2⟩:=x.2;have hyl:=zqO pre;have hE:=HEI.out (zdA pre) (by omega) (fun y hy=>(zq5 pre y hy).2);have HSN:Hid (zcD ns (zdA (pre++[x]))=zlz (zcD ns (zdA pre)) x.1.2):=by show _=_;rw[znG];rfl
  have hec:=hE.cnt;have het:=hE.tight;generalize zcD ns (zdA pre)=st at *;generalize hx:x.1.2=xv at *;have hdm1:¬O1 w1.heap.size:=hMM.beside (by omega) (fun h=>by have:=hso _ h;omega);have hsb1:¬O1 w.heap.size:=hMM.beside (by omega) (fun h=>by have:=hso _ h;omega);have hW0s:=hMM.size;have d0:W.drew.cell? ⟨w.heap.size,0,none⟩=some (.pointer (some ⟨s,0,none⟩)):=(hMM.cell (a:=⟨w.heap.size,0,none⟩) (by show w.heap.size<_;omega) (fun h=>by have:=hso w.heap.size h;omega) (by show w.heap.size≠_;omega)).trans (HL0.out.cell 0);have hbd:zB W W.drew:=zF.drew;have hLc:=zwV (v:=(zcW xv:Int)) (is:=decide (0<xv)) (hS1.new hbd) (zlj hroom4 HROOM.out (by omega) (by omega) (by omega) (by show B<=W.heap.size;omega)) (by omega) (by omega);have hLF:=zmO hE.good (v:=(zcW xv:Int)) (decide (0<xv)) (by omega) (by omega) (by omega) (by omega);have hLR:=zpZ hE.good hq2 (by omega) (by omega);have HES:Hid (zlz st xv=zkp true (zox st.1 xv).1 ⟨(zox st.1 xv).2,1,st.2⟩):=rfl;change Calls _ _ _ _ (zcS B s b O1 vars room (zox st.1 xv) W.drew) at hLc;change cnt (zox st.1 xv).1<=_/\(zox st.1 xv).1.length<=_ at hLF;have hOr:Hid (∀O2 X,zag B X s b O2 vars room (zox st.1 xv).1->B<=X.heap.size->zC 285 #[.pointer (some ⟨s,0,none⟩),.int .i64 (zox st.1 xv).2,.int .i64 st.2] X (zcS B s b O2 vars room (zlz st xv) X)):=fun O2 X h1 h2=>zxA h1 hLR.good (zlj hroom4 HROOM.out (by omega) (by omega) (by omega) h2) _ _ hLR.has (hLR.ext.has _ hE.has);generalize zlz st xv=r2 at *;generalize zox st.1 xv=r1 at *;have HVC:Hid (∀X:World,CallsIn Fence.wide 1 Tryz.prog 222 #[.int .i64 xv] X fun e w'=>e=.returned (.int .i64 (zcW xv))/\X=w'):=fun X=>callsIn_wide.2 (zhu xv hq1 X);have HLC:Hid (CallsIn Fence.wide 1 Tryz.prog 284 #[.pointer (some ⟨s,0,none⟩),.int .i64 (zcW xv),.bool (decide (0<xv))] W.drew (zcS B s b O1 vars room r1 W.drew)):=callsIn_wide.2 hLc;have hmx:Tryz.prog.follows .mixedOrders=true:=by kernel_rfl
  have HMM:=zH hMM;have hcD:W.drew.cell? ⟨w1.heap.size,0,none⟩=some (.int .i64 st.2):=hc;have HFZ:Hid (W.drew.frozen? ⟨w1.heap.size,0,none⟩=false):=hf;have HCF:Hid (∀k,O1 k->W0.heap.size<=k->zav W.drew k):=fun k h1 h2=>hMM.from hO0 h1 h2;have HKR:Hid (∀k,(k<W0.heap.size/\¬O k/\k≠w1.heap.size)->k<W.heap.size/\¬O1 k):=fun k h=>⟨by omega,hMM.beside h.1 h.2.1⟩;clear hst h0 hLc hE hec het hLF hLR hS1 hMM hc hf HES hbd
  gi_wp2_with fail
  refine zfJ hmx ?nd ?any
  case nd =>intro j o h c hc;have hm:=Array.mem_of_getElem? h;simp at hm;rcases hm with rfl|rfl|rfl|rfl|rfl|rfl|rfl|rfl|rfl|rfl|rfl<;>cases hc
  case any =>
   refine wpAnyIn_take (i:=1) (v:=.int .i64 xv) rfl rfl (by kernel_rfl) (by kernel_rfl) (by kernel_rfl) (fun _ _ _ h=>h) ⟨Or.inl ⟨by rfl,by intro w;go_simp⟩,fun _=>rfl⟩ ?_;refine wpAnyIn_take (i:=3) (v:=.int .i64 xv) rfl rfl (by kernel_rfl) (by kernel_rfl) (by kernel_rfl) (fun _ _ _ h=>h) ⟨Or.inl ⟨by rfl,by intro w;go_simp⟩,fun _=>rfl⟩ ?_;refine wpAnyIn_take (i:=4) (v:=.bool (decide (0<xv))) rfl rfl (by kernel_rfl) (by kernel_rfl) (by kernel_rfl) (fun _ _ _ h=>h) ⟨Or.inl ⟨by rfl,by intro w;go_simp⟩,fun _=>rfl⟩ ?_;refine wpAnyIn_ready (rs:=[0,2]) (by kernel_rfl) (by simp) ?_;refine AllReadyIn.cons rfl (fun K hK=>?_) (AllReadyIn.cons rfl (fun K hK=>?_) AllReadyIn.nil)
   ·skip
    go_simp;refine hK _ _ ?_;clear hK K;refine wpAnyIn_ready (rs:=[2]) (by kernel_rfl) (by simp) ?_;refine AllReadyIn.cons rfl (fun K hK=>?_) AllReadyIn.nil;go_simp
    gi_wp2_with (refine⟨trivial,?_⟩;gi_at_call 222;refine(HVC.out _).mono ?_;rintro e wT ⟨rfl,rfl⟩)
    refine wpAnyIn_ready (rs:=[5]) (by kernel_rfl) (by simp) ?_;refine AllReadyIn.cons rfl (fun K hK=>?_) AllReadyIn.nil;go_simp
    gi_wp2_with (refine⟨trivial,?_⟩;gi_at_call 284;refine(HLC.out).mono ?_;rintro e wT ⟨rfl,O2,hS2,hM2⟩)
    refine wpAnyIn_take (i:=6) (v:=.tuple #[.int .i64 r1.2,.nilIface]) rfl rfl (by kernel_rfl) (by kernel_rfl) (by kernel_rfl) (fun _ _ _ h=>h) ⟨Or.inl ⟨by rfl,by intro w;go_simp⟩,fun _=>rfl⟩ ?_;refine wpAnyIn_take (i:=7) (v:=.int .i64 r1.2) rfl rfl (by kernel_rfl) (by kernel_rfl) (by kernel_rfl) (fun _ _ _ h=>h) ⟨Or.inl ⟨by rfl,by intro w;go_simp⟩,fun _=>rfl⟩ ?_;refine wpAnyIn_take (i:=9) (v:=.int .i64 r1.2) rfl rfl (by kernel_rfl) (by kernel_rfl) (by kernel_rfl) (fun _ _ _ h=>h) ⟨Or.inl ⟨by rfl,by intro w;go_simp⟩,fun _=>rfl⟩ ?_;refine wpAnyIn_take (i:=8) (v:=.nilIface) rfl rfl (by kernel_rfl) (by kernel_rfl) (by kernel_rfl) (fun _ _ _ h=>h) ⟨Or.inl ⟨by rfl,by intro w;go_simp⟩,fun _=>rfl⟩ ?_;refine wpAnyIn_take (i:=10) (v:=.nilIface) rfl rfl (by kernel_rfl) (by kernel_rfl) (by kernel_rfl) (fun _ _ _ h=>h) ⟨Or.inl ⟨by rfl,by intro w;go_simp⟩,fun _=>rfl⟩ ?_;refine wpAnyIn_done (by kernel_rfl) ?_ _;have hs2:W.heap.size<=wT.heap.size:=hM2.size;have hbd:zB W W.drew:=zF.drew;have hWlt:w1.heap.size<W.drew.heap.size:=by show w1.heap.size<W.heap.size;omega
    have hwlt:w.heap.size<W.drew.heap.size:=by show w.heap.size<W.heap.size;omega
    have d2:wT.cell? ⟨w.heap.size,0,none⟩=some (.pointer (some ⟨s,0,none⟩)):=(hM2.cell (a:=⟨w.heap.size,0,none⟩) hwlt hsb1).trans d0;have c2:wT.cell? ⟨w1.heap.size,0,none⟩=some (.int .i64 st.2):=(hM2.cell (a:=⟨w1.heap.size,0,none⟩) hWlt hdm1).trans hcD;have hdm2:¬O2 w1.heap.size:=hM2.beside hWlt hdm1;have hOC:=zH (CallsIn.inRound l (callsIn_wide (n:=1).2 (hOr.out O2 wT hS2 (by omega))));have mm1:MM O O1 w1.heap.size W0 W.drew:=HMM.out.trans (MM.of_below hbd);have mm2:=mm1.trans (MM.of_moves (dm:=w1.heap.size) hM2);have HM2:=zH hM2;have HMM2:=zH mm2;have f2:wT.frozen? ⟨w1.heap.size,0,none⟩=false:=(zcI (a:=⟨w1.heap.size,0,none⟩) (hM2.kept.block w1.heap.size hWlt hdm1)).trans HFZ.out;have HF2:=zH f2;clear hM2 mm2 f2 hS2 d0 hcD HVC HLC
    gi_wp2_with fail
    refine⟨trivial,?_⟩;refine hOC.out.mono ?_;rintro e w3 ⟨rfl,O3,hS3,hM3⟩;have hlt2:w1.heap.size<wT.heap.size:=by omega
    have c3:w3.cell? ⟨w1.heap.size,0,none⟩=some (.int .i64 st.2):=(hM3.cell (a:=⟨w1.heap.size,0,none⟩) hlt2 hdm2).trans c2;have f3:w3.frozen? ⟨w1.heap.size,0,none⟩=false:=(zcI (a:=⟨w1.heap.size,0,none⟩) (hM3.kept.block w1.heap.size hlt2 hdm2)).trans HF2.out;have hdm3:¬O3 w1.heap.size:=hM3.beside hlt2 hdm2;have HKF:Hid (KeepsFrom W0.heap.size W (w3.setCell ⟨w1.heap.size,0,none⟩ (.int .i64 r2.2))):=((((KeepsOthers.drew W).from _).trans (zgh HM2.out HCF.out)).trans (zgh hM3 (fun k h1 h2=>HMM2.out.from hO0 h1 h2))).trans ((KeepsOthers.setCell _ _ _).from _);have HKP:Hid (KpR (fun k=>k<W0.heap.size/\¬O k/\k≠w1.heap.size) W (w3.setCell ⟨w1.heap.size,0,none⟩ (.int .i64 r2.2))):=zj1 (zj1 (zj1 (zpX W) (zge HM2.out (fun k h=>HKR.out k h))) (zge hM3 (fun k h=>⟨Nat.lt_of_lt_of_le (HKR.out k h).1 HM2.out.size,HM2.out.beside (HKR.out k h).1 (HKR.out k h).2⟩))) (ztQ (fun k h=>h.2.2) _ _);have HEN:Hid (EI B s b vars room O w1.heap.size W0 ns (zdA (pre++[x])) (w3.setCell ⟨w1.heap.size,0,none⟩ (.int .i64 r2.2))):=by
     refine⟨O3,?_,(HMM2.out.trans (MM.of_moves (dm:=w1.heap.size) hM3)).set _,?_,?_⟩
     ·rw[HSN.out];exact hS3.kept (zah.setCell (S:=fun j=>j=w1.heap.size) w3 ⟨w1.heap.size,0,none⟩ _ rfl) (fun k hk e=>hdm3 (e▸hk)) (fun e=>by omega)
     ·rw[HSN.out];exact World.cell?_setCell_same _ _ _ c3
     ·rw[World.frozen?_setCell];exact f3
    clear hS3 hM3 hOC HM2 HMM2 c2 d2
    gi_wp2
    exact⟨HKF.out,HKP.out,HEN.out⟩
   ·skip
    go_simp
    gi_wp2_with (refine⟨trivial,?_⟩;gi_at_call 222;refine(HVC.out _).mono ?_;rintro e wT ⟨rfl,rfl⟩)
    refine wpAnyIn_ready (rs:=[0]) (by kernel_rfl) (by simp) ?_;refine AllReadyIn.cons rfl (fun K hK=>?_) AllReadyIn.nil;go_simp;refine hK _ _ ?_;clear hK K;refine wpAnyIn_ready (rs:=[5]) (by kernel_rfl) (by simp) ?_;refine AllReadyIn.cons rfl (fun K hK=>?_) AllReadyIn.nil;go_simp
    gi_wp2_with (refine⟨trivial,?_⟩;gi_at_call 284;refine(HLC.out).mono ?_;rintro e wT ⟨rfl,O2,hS2,hM2⟩)
    refine wpAnyIn_take (i:=6) (v:=.tuple #[.int .i64 r1.2,.nilIface]) rfl rfl (by kernel_rfl) (by kernel_rfl) (by kernel_rfl) (fun _ _ _ h=>h) ⟨Or.inl ⟨by rfl,by intro w;go_simp⟩,fun _=>rfl⟩ ?_;refine wpAnyIn_take (i:=7) (v:=.int .i64 r1.2) rfl rfl (by kernel_rfl) (by kernel_rfl) (by kernel_rfl) (fun _ _ _ h=>h) ⟨Or.inl ⟨by rfl,by intro w;go_simp⟩,fun _=>rfl⟩ ?_;refine wpAnyIn_take (i:=9) (v:=.int .i64 r1.2) rfl rfl (by kernel_rfl) (by kernel_rfl) (by kernel_rfl) (fun _ _ _ h=>h) ⟨Or.inl ⟨by rfl,by intro w;go_simp⟩,fun _=>rfl⟩ ?_;refine wpAnyIn_take (i:=8) (v:=.nilIface) rfl rfl (by kernel_rfl) (by kernel_rfl) (by kernel_rfl) (fun _ _ _ h=>h) ⟨Or.inl ⟨by rfl,by intro w;go_simp⟩,fun _=>rfl⟩ ?_;refine wpAnyIn_take (i:=10) (v:=.nilIface) rfl rfl (by kernel_rfl) (by kernel_rfl) (by kernel_rfl) (fun _ _ _ h=>h) ⟨Or.inl ⟨by rfl,by intro w;go_simp⟩,fun _=>rfl⟩ ?_;refine wpAnyIn_done (by kernel_rfl) ?_ _;have hs2:W.heap.size<=wT.heap.size:=hM2.size;have hbd:zB W W.drew:=zF.drew;have hWlt:w1.heap.size<W.drew.heap.size:=by show w1.heap.size<W.heap.size;omega
    have hwlt:w.heap.size<W.drew.heap.size:=by show w.heap.size<W.heap.size;omega
    have d2:wT.cell? ⟨w.heap.size,0,none⟩=some (.pointer (some ⟨s,0,none⟩)):=(hM2.cell (a:=⟨w.heap.size,0,none⟩) hwlt hsb1).trans d0;have c2:wT.cell? ⟨w1.heap.size,0,none⟩=some (.int .i64 st.2):=(hM2.cell (a:=⟨w1.heap.size,0,none⟩) hWlt hdm1).trans hcD;have hdm2:¬O2 w1.heap.size:=hM2.beside hWlt hdm1;have hOC:=zH (CallsIn.inRound l (callsIn_wide (n:=1).2 (hOr.out O2 wT hS2 (by omega))));have mm1:MM O O1 w1.heap.size W0 W.drew:=HMM.out.trans (MM.of_below hbd);have mm2:=mm1.trans (MM.of_moves (dm:=w1.heap.size) hM2);have HM2:=zH hM2;have HMM2:=zH mm2;have f2:wT.frozen? ⟨w1.heap.size,0,none⟩=false:=(zcI (a:=⟨w1.heap.size,0,none⟩) (hM2.kept.block w1.heap.size hWlt hdm1)).trans HFZ.out;have HF2:=zH f2;clear hM2 mm2 f2 hS2 d0 hcD HVC HLC
    gi_wp2_with fail
    refine⟨trivial,?_⟩;refine hOC.out.mono ?_;rintro e w3 ⟨rfl,O3,hS3,hM3⟩;have hlt2:w1.heap.size<wT.heap.size:=by omega
    have c3:w3.cell? ⟨w1.heap.size,0,none⟩=some (.int .i64 st.2):=(hM3.cell (a:=⟨w1.heap.size,0,none⟩) hlt2 hdm2).trans c2;have f3:w3.frozen? ⟨w1.heap.size,0,none⟩=false:=(zcI (a:=⟨w1.heap.size,0,none⟩) (hM3.kept.block w1.heap.size hlt2 hdm2)).trans HF2.out;have hdm3:¬O3 w1.heap.size:=hM3.beside hlt2 hdm2;have HKF:Hid (KeepsFrom W0.heap.size W (w3.setCell ⟨w1.heap.size,0,none⟩ (.int .i64 r2.2))):=((((KeepsOthers.drew W).from _).trans (zgh HM2.out HCF.out)).trans (zgh hM3 (fun k h1 h2=>HMM2.out.from hO0 h1 h2))).trans ((KeepsOthers.setCell _ _ _).from _);have HKP:Hid (KpR (fun k=>k<W0.heap.size/\¬O k/\k≠w1.heap.size) W (w3.setCell ⟨w1.heap.size,0,none⟩ (.int .i64 r2.2))):=zj1 (zj1 (zj1 (zpX W) (zge HM2.out (fun k h=>HKR.out k h))) (zge hM3 (fun k h=>⟨Nat.lt_of_lt_of_le (HKR.out k h).1 HM2.out.size,HM2.out.beside (HKR.out k h).1 (HKR.out k h).2⟩))) (ztQ (fun k h=>h.2.2) _ _);have HEN:Hid (EI B s b vars room O w1.heap.size W0 ns (zdA (pre++[x])) (w3.setCell ⟨w1.heap.size,0,none⟩ (.int .i64 r2.2))):=by
     refine⟨O3,?_,(HMM2.out.trans (MM.of_moves (dm:=w1.heap.size) hM3)).set _,?_,?_⟩
     ·rw[HSN.out];exact hS3.kept (zah.setCell (S:=fun j=>j=w1.heap.size) w3 ⟨w1.heap.size,0,none⟩ _ rfl) (fun k hk e=>hdm3 (e▸hk)) (fun e=>by omega)
     ·rw[HSN.out];exact World.cell?_setCell_same _ _ _ c3
     ·rw[World.frozen?_setCell];exact f3
    clear hS3 hM3 hOC HM2 HMM2 c2 d2
    gi_wp2
    exact⟨HKF.out,HKP.out,HEN.out⟩
 case done =>
  rintro D ys WF hD hys ⟨O1,hS1,hMM,hc,hf⟩ hK;rw[zkv hys] at hS1 hc;have hK1:=zdF hK rfl;have hszW:=hMM.size;have g1:WF.cell? ⟨w.heap.size+1,0,none⟩=some (.int .i64 0):=(hMM.cell (a:=⟨w.heap.size+1,0,none⟩) (by show w.heap.size+1<_;omega) (fun h=>by have:=hso (w.heap.size+1) h;omega) (by show w.heap.size+1≠_;omega)).trans (HL1.out.cell 0);have g2:WF.cell? ⟨w.heap.size+1+1,0,none⟩=some .nilIface:=(hMM.cell (a:=⟨w.heap.size+1+1,0,none⟩) (by show w.heap.size+1+1<_;omega) (fun h=>by have:=hso (w.heap.size+1+1) h;omega) (by show w.heap.size+1+1≠_;omega)).trans (HL2.out.cell 0);have e1:WF.frozen? ⟨w.heap.size+1,0,none⟩=false:=(hMM.frozen (a:=⟨w.heap.size+1,0,none⟩) (by show w.heap.size+1<_;omega) (fun h=>by have:=hso (w.heap.size+1) h;omega) (by show w.heap.size+1≠_;omega)).trans (HL1.out.frozen 0);have e2:(WF.setCell ⟨w.heap.size+1,0,none⟩ (.int .i64 (zcD ns xs).2)).frozen? ⟨w.heap.size+1+1,0,none⟩=false:=by
   rw[World.frozen?_setCell];exact(hMM.frozen (a:=⟨w.heap.size+1+1,0,none⟩) (by show w.heap.size+1+1<_;omega) (fun h=>by have:=hso (w.heap.size+1+1) h;omega) (by show w.heap.size+1+1≠_;omega)).trans (HL2.out.frozen 0)
  have g3:(WF.setCell ⟨w.heap.size+1,0,none⟩ (.int .i64 (zcD ns xs).2)).cell? ⟨w.heap.size+1+1,0,none⟩=some .nilIface:=(World.cell?_setCell_other _ _ _ _ (by intro h;injection h;omega)).trans g2;obtain⟨W9,hW9⟩:∃W9,(WF.setCell ⟨w.heap.size+1,0,none⟩ (.int .i64 (zcD ns xs).2)).setCell ⟨w.heap.size+1+1,0,none⟩ .nilIface=W9:=⟨_,rfl⟩;have r1:W9.cell? ⟨w.heap.size+1,0,none⟩=some (.int .i64 (zcD ns xs).2):=by rw[<-hW9];exact(World.cell?_setCell_other _ _ _ _ (by intro h;injection h;omega)).trans (World.cell?_setCell_same _ _ _ g1)
  have r2:W9.cell? ⟨w.heap.size+1+1,0,none⟩=some .nilIface:=by rw[<-hW9];exact World.cell?_setCell_same _ _ _ g3
  have hK9:W9.heap[D]?=some (.deferred (some [])):=by rw[<-hW9];exact((KeepsOthers.setCell _ _ _).trans (KeepsOthers.setCell _ _ _)).same D _ hK rfl
  have hkp9:zah (fun k=>k=w.heap.size+1\/k=w.heap.size+1+1) WF W9:=by rw[<-hW9];exact(zah.setCell WF ⟨w.heap.size+1,0,none⟩ _ (.inl rfl)).andThen (zah.setCell _ ⟨w.heap.size+1+1,0,none⟩ _ (.inr rfl:(fun k=>k=w.heap.size+1\/k=w.heap.size+1+1) (w.heap.size+1+1))) (fun i h _=>h)
  have hc9:∀k,zav WF k->zav W9 k:=fun k h=>by rw[<-hW9];exact zgX (zgX h _ _) _ _
  have hnD:¬zav W9 D:=zdF hK9 rfl;have r1p:(W9.putObj D (.deferred none)).cell? ⟨w.heap.size+1,0,none⟩=some (.int .i64 (zcD ns xs).2):=(zhc (a:=⟨w.heap.size+1,0,none⟩) (World.putObj_heap_other (by show w.heap.size+1≠D;omega))).trans r1;have r2p:(W9.putObj D (.deferred none)).cell? ⟨w.heap.size+1+1,0,none⟩=some .nilIface:=(zhc (a:=⟨w.heap.size+1+1,0,none⟩) (World.putObj_heap_other (by show w.heap.size+1+1≠D;omega))).trans r2;have hkpD:zah (fun k=>k=D) W9 (W9.putObj D (.deferred none)):=zah.of_grown (grownBy_putObj' W9 D _) (fun i e=>by cases e;rfl);have hO1:∀k,k<W0.heap.size->¬O k->¬O1 k:=fun k h1 h2=>hMM.beside h1 h2;have hD1:¬O1 D:=hMM.out hO0 hD hK1;have HFS:Hid (zag B (W9.putObj D (.deferred none)) s b O1 vars room (zcD ns xs).1):=(hS1.kept hkp9 (fun k hk e=>by
   rcases e with rfl|rfl
   ·exact hO1 _ (by omega) (fun h=>by have:=hso _ h;omega) hk
   ·exact hO1 _ (by omega) (fun h=>by have:=hso _ h;omega) hk) (fun e=>by omega)).kept hkpD (fun k hk e=>hD1 (e ▸ hk)) (fun e=>by omega)
  have HFM:Hid (za3 O O1 w (W9.putObj D (.deferred none))):=zpp HBW.out (by omega) hMM ((hkp9.mono (T:=fun k=>w.heap.size<=k) (fun i h=>by show w.heap.size<=i;omega)).andThen hkpD (fun i e _=>by show w.heap.size<=i;omega)) (fun k h=>zqQ (hc9 k h) hnD _);have HK9:=zH hK9;have HW9:=zH hW9;clear hS1 hMM hK hK1 hK9 hkp9 hkpD hc9 hnD hO1 hD1 hst h0 hf hW9
  gi_wp2_with fail
  rw[HW9.out];refine⟨by simp,.inl ⟨_,_,rfl,run_takeDeferred HK9.out,?_⟩⟩;refine⟨.tuple #[.int .i64 (zcD ns xs).2,.nilIface],?_,?_⟩
  ·simp[results,Tryz.f224,go_sem,r1p,r2p]
  ·exact⟨rfl,O1,HFS.out,HFM.out⟩
theorem zsz(hS:zag B w s b O vars room ns)(hA:zwz B w vars room ns)(c:List Int)(hl:zfS vars c)(a:Option Addr)(cap:Nat)(hI:zbu w a c)(hm:c.length<=9223372036854775807) :
  zC 224 #[.pointer (some ⟨s,0,none⟩),.slice a c.length cap] w (zcS B s b O vars room (zdy ns c) w):=by
 unfold zdy;cases ha:zaB (zai c) with
 |true=>rw[if_pos rfl];exact ziw hS c ha a cap hI hm
 |false=>rw[if_neg (by simp)];exact(callsIn_wide (n:=4)).1 (zpe hS hA c ha hl a cap hI hm)
end
end Bd
namespace Bd
open Go.RowKit Go.Maps Go.Deep
theorem zi4{P:Program}{ops:Array Oper}{o:Oper}{a:Act}{w:World}{K:Act->World->Prop}{Q:Exit->Act->World->Prop}{E:Prop}
  (hg:o.guard=none) (s x:Operand) (t:TypeId) (hop:o.op=Op.call { callee:=Callee.builtin Builtin.append,args:=#[s,x],argTypes:=#[t,t] })
  (B:Nat) (e:TypeId) (i:TypeInfo) (z:Value) (size bytes:Nat) (h1:P.underlying t=some (.slice e)) (h2:P.info? e=some i) (h3:i.zero=some z) (h4:i.size=size) (h5:i.bytes=bytes) (h6:z.cells.size=size) (h7:0<size)
  (v:Value) (n:Nat) (olds:List Value) (hs:a.eval s=v) (hrow:w.ownsRow B e size v n olds)
  (ad:Addr) (m c:Nat) (news:List Value) (hx:a.eval x=.slice (some ad) m c) (hn:news.length=m*size) (hc:∀j u,news[j]?=some u->w.cell? (ad.add j)=some u) (h1c:∀u∈news,u.oneCell'=true)
  (b1:n+m<=maxLen) (hB:B<=w.heap.size) (b2:(n+m)*bytes<=140737488355328)
  (hK:∀v' w',w'.ownsRow B e size v' (n+m) (olds++news)->w.grownBy w' v.ownBlock->K (a.put o.dst v') w') :
  if Region.wanted o (yielded ops a.tmps)=true then Oper.wp P o a w K Q else E:=by
 have hw:Region.wanted o (yielded ops a.tmps)=true:=by simp[Region.wanted,hg]
 rw[if_pos hw];obtain⟨v',w',hrun,r1,r2,-⟩:=run_append_own_at (P:=P) w B t o.type e i z size bytes h1 h2 h3 h4 h5 h6 h7 v n olds hrow ad m c news hn hc h1c b1 b2 hB;unfold Oper.wp;simp[execOp,hop,resolve,invoke,builtin,hs,hx,hrun,Result.andThen];exact hK v' w' r1 r2
theorem zvu(st:List Nd × Int)(c:List Int):zhe st c=zkp true (zdy st.1 c).1 ⟨st.2,(zdy st.1 c).2,0⟩:=by
 unfold zhe zdy;split<;>rfl
section
variable {B s b:Nat} {O:Nat->Prop} {vars:Nat} {room:Int} {ns:List Nd} {w:World}
theorem zmA(hA:zwz B w vars room ns){c:List Int}(hl:zfS vars c):zcq vars (zdy ns c).1/\Ext ns (zdy ns c).1/\zaP (zdy ns c).1 (zdy ns c).2=true/\cnt (zdy ns c).1<=cnt ns+25*vars/\(zdy ns c).1.length<=max ns.length (cnt ns+600):=by
 have hv:=hA.v;have hp:=zoZ hA.v;have hc:=hA.cnt;have hn:=hA.len;unfold zdy;cases ha:zaB (zai c) with
 |true=>rw[if_pos rfl];exact⟨hA.good,Ext.refl _,zbh _,by show cnt ns<=_;omega,Nat.le_max_left _ _⟩
 |false =>rw[if_neg (by simp)];have hl24:zfS 24 c:=fun x hx=>zgE (by omega) (hl x hx);have hcl:=zfH (show vars<=24 by omega) hl;have:=zg3 hA.good (by omega) (by omega) (by omega) (by omega) (zaz (zai c)) (by omega) (fun x hx=>zfs (hl x ((zdl hl24 ha).1 hx)));exact⟨this.good,this.ext,this.has,by have:=this.cnt;omega,by have:=this.tight;omega⟩
theorem zoo(hS:zag B w s b O vars room ns)(hA:zwz B w vars room ns)(x:Int)(hx:zaP ns x=true)(c:List Int)(hl:zfS vars c)(a:Option Addr)(cap:Nat)(hI:zbu w a c)(hm:c.length<=9223372036854775807) :
  zC 160 #[.pointer (some ⟨s,0,none⟩),.int .i64 x,.slice a c.length cap] w (zcS B s b O vars room (zhe (ns,x) c) w):=by
 rw[zvu];have hE:=zH (zsz hS hA c hl a cap hI hm);obtain⟨h1,h2,h3,h4,h5⟩:=zmA hA hl;have hv:=hA.v;have hp:=zoZ hA.v;have hcn:=hA.cnt;have hn:=hA.len;have HAN:Hid (∀O' W,zag B W s b O' vars room (zdy ns c).1->B<=W.heap.size->zC 225 #[.pointer (some ⟨s,0,none⟩),.int .i64 x,.int .i64 (zdy ns c).2] W (zcS B s b O' vars room (zkp true (zdy ns c).1 ⟨x,(zdy ns c).2,0⟩) W)):=fun O' W hW hB=>zwH hW h1 (zlj hA.r hA.l (by omega) (by omega) (by omega) hB) _ _ (h2.has _ hx) h3;have hB:=hA.hB;simp only at HAN ⊢;generalize zdy ns c=r at *;generalize zkp true r.1 ⟨x,r.2,0⟩=q at *;clear hS hA hl hI h1 h2 h3 h4 h5 hcn hn hp hx;go_enter Tryz.func160,Tryz.ntmps160;go_wp2_with fail;refine hE.out.mono ?_;rintro e w1 ⟨rfl,O1,hS1,hM1⟩;have HA2:=zH (HAN.out O1 w1 hS1 (Nat.le_trans hB hM1.size));have HM1:=zH hM1;clear hS1 hM1 hE HAN;go_wp2_with fail;refine HA2.out.mono ?_;rintro e w2 ⟨rfl,O2,hS2,hM2⟩;have HF:Hid (∃O',zag B w2 s b O' vars room q.1/\za3 O O' w w2):=⟨O2,hS2,HM1.out.trans hM2⟩;clear hS2 hM2 HA2;go_wp2;go_ret2;exact⟨rfl,HF.out⟩
theorem zto{w:World}{B:Nat}{v:Value}{x:Int}(h:w.ownsRow B 3 1 v 1 [.int .i64 x])(hx:I64 x):∃g c,v=.slice (some ⟨g,0,none⟩) 1 c/\zeh w g [x]:=by
 rcases h.2 with ⟨e,e0⟩|⟨g,cap,cur,rfl,hB,hg,h1,h2,h3,h4⟩
 ·cases e0
 ·refine⟨g,cap,rfl,⟨(h.lt g rfl).2,fun i hi=>?_,fun y hy=>by rw[List.mem_singleton.1 hy];exact hx⟩⟩;simp at hi;subst hi;exact h.cellAt 0 (by omega)
theorem zoV{w0:World}(hr4:room<=4000)(hrl:((2*2^vars+25*vars:Nat):Int)<=room+1)(hb0:zB w0 w)(hS:zag w0.heap.size w s b O vars room [])(hv:vars<=10)(K:List (List Int))(hl:ze2 vars K)(a:Option Addr)(cap:Nat)(hI:zeD w0 a K)(hm:K.length<=100000)(hmc:∀c∈K,c.length<=9223372036854775807) :
  zC 75 #[.pointer (some ⟨s,0,none⟩),.slice a K.length cap] w (zcS w0.heap.size s b O vars room (clF K) w):=by
 have k0:=Blk.new w 35 #[.pointer (some ⟨s,0,none⟩)];have hbA:=Go.Proofs.YtiihalknffbjpaaGreatDoor.below_new w (.cells #[.pointer (some ⟨s,0,none⟩)] 35);have hso:=fun k h=>(hS.own k h).2;have hsb:=fun k h=>(hS.own k h).1;have hw0:=hb0.size;obtain⟨W1,hW1⟩:∃W1,w.alloc (.cells #[.pointer (some ⟨s,0,none⟩)] 35)=W1:=⟨_,rfl⟩;have hsz:W1.heap.size=w.heap.size+1:=by rw[<-hW1];exact World.size_alloc _ _
 rw[hW1] at k0 hbA;have hS1:=hS.new hbA;have hb1:=zT hb0 hbA;have HCF:Hid (zR 102 #[.slice a K.length cap,.func (.func 157) #[] #[.pointer (some ⟨w.heap.size,0,none⟩)]] W1 (.bool false)):=by
  have:=zw9 157 #[.pointer (some ⟨w.heap.size,0,none⟩)] (fun _=>false) K a cap W1 (by omega) zi8 (hI.below hb1) (fun W i a' cap' hW hi hc1 hc2 hi'=>zn3 (hS1.new hW) (by omega) (K.getD i []) (hl _ (zbL hi)) a' cap' hi' (hmc _ (zbL hi)) w.heap.size ((hW.cell (p:=⟨w.heap.size,0,none⟩) (by show w.heap.size<_;omega)).trans (k0.cell 0)));rw[show (K.any fun _=>false)=false by simp] at this;exact this
 have HAB:=zH (zmq hS1);have HLD:Hid (∀W,zB W1 W->zC 159 #[.pointer (some ⟨s,0,none⟩)] W fun e w'=>e=.returned (.slice none 0 0)/\W=w'):=fun W hW=>zxq (hS1.new hW) rfl;have HCL:=zH (zpP (show vars<=12 by omega) K hl);have HI:=zH hI;have HL:=zH hl;have HMC:=zH hmc;have HB1:=zH hb1;have HS1:=zH hS1;have HBA:=zH hbA;have K0:=zH k0;have HP:=zH (zoZ hv);have HRL:=zH hrl;have c0:=k0.cell 0;have HW1:=zH hW1;clear hI hl hmc hb1 hS1 hbA k0 hW1 hS hb0 hrl;obtain⟨i3,hin,hz0,hz1,hz2⟩:=info_parts zcl;go_enter Tryz.func75,Tryz.ntmps75;go_upto_region 1 with fail;rw[HW1.out];go_wp2_with fail;refine HAB.out.mono ?_;rintro e w1 ⟨rfl,rfl⟩;clear HAB;go_wp2_with fail;refine HCF.out.mono ?_;rintro e w2 ⟨rfl,hb2⟩;have HLD2:=zH (HLD.out w2 hb2);have c2:w2.cell? ⟨w.heap.size,0,none⟩=some (.pointer (some ⟨s,0,none⟩)):=(hb2.cell (p:=⟨w.heap.size,0,none⟩) (by show w.heap.size<_;omega)).trans c0;have HB2:=zH hb2;clear hb2 HCF HLD c0;go_wp2_with fail;refine HLD2.out.mono ?_;rintro e w3 ⟨rfl,rfl⟩;clear HLD2;go_wp2_with fail;go_loopw [7,23] (fun o iV wr=>∃(i:Nat) (Oi:Nat->Prop),i<=K.length/\iV=.int .i64 i/\o=.int .i64 (clF (K.take i)).2/\zag w0.heap.size wr s b Oi vars room (clF (K.take i)).1/\za3 O Oi w2 wr) (fun _ iV _=>K.length-(intOf iV).toNat)
 case atStart=>exact⟨0,O,Nat.zero_le _,rfl,rfl,HS1.out.new HB2.out,za3.refl _ _⟩
 case round =>
  obtain⟨i,Oi,hi,rfl,rfl,hSi,hMi⟩:=hrel;have hw2:W1.heap.size<=w2.heap.size:=HB2.out.size;have hwr:=hMi.size;have hbr:zB w0 wr:=(zT HB1.out HB2.out).trans (hMi.below (by omega) hsb);have hnb:¬O w.heap.size:=fun h=>by have:=hso _ h;omega
  have cR:wr.cell? ⟨w.heap.size,0,none⟩=some (.pointer (some ⟨s,0,none⟩)):=(hMi.cell (a:=⟨w.heap.size,0,none⟩) (by show w.heap.size<_;omega) hnb).trans c2;have hnbi:¬Oi w.heap.size:=hMi.beside (by omega) hnb
  by_cases hlt:i<K.length
  ·have hcr:=HCL.out i (by omega);have hp:=HP.out;have hcn:=hcr.cnt;have hln:=hcr.len;obtain⟨ad,a',cap',rfl,had,hcell,hc1,hc2,hii⟩:=(HI.out.below hbr) i hlt;have hLc:zfS vars (K.getD i []):=HL.out _ (zbL hlt);have hst:clF (K.take (i+1))=zmb (clF (K.take i)) (K.getD i []):=by
    rw[List.take_succ_eq_append_getElem hlt,zmu];simp[List.getD_eq_getElem?_getD,List.getElem?_eq_getElem hlt]
   have hone:=zt2 hcr (show vars<=12 by omega) hLc;have hA:zwz w0.heap.size wr vars room (clF (K.take i)).1:=⟨hr4,HRL.out,hcr.good,hv,hcn,by omega,by omega⟩;have HNR:Hid (zC 160 #[.pointer (some ⟨s,0,none⟩),.int .i64 (clF (K.take i)).2,.slice a' (K.getD i []).length cap'] wr (zcS w0.heap.size s b Oi vars room (zhe (clF (K.take i)) (K.getD i [])) wr)):=zoo hSi hA _ hcr.has (K.getD i []) hLc a' cap' hii (HMC.out _ (zbL hlt));have hfew:(zhe (clF (K.take i)) (K.getD i [])).1.length<=90000:=by
    have h1:=hone.tight;have h2:=zmA hA hLc;unfold zdy at h2;cases hq:zaB (zai (K.getD i [])) with
    |true=>rw[hq,if_pos rfl] at h1;omega
    |false=>rw[hq,if_neg (by simp)] at h1 h2;omega
   have HST:Hid (clF (K.take (i+1))=(zbD (zhe (clF (K.take i)) (K.getD i [])).1 (zaw (zhe (clF (K.take i)) (K.getD i [])).1 [(zhe (clF (K.take i)) (K.getD i [])).2]),(zhe (clF (K.take i)) (K.getD i [])).2)):=hst;have hgood:=hone.good;have hi64:=zbg hone.has (by omega);generalize zhe (clF (K.take i)) (K.getD i [])=r at *;generalize (clF (K.take i)).2=ov at *;generalize K.getD i []=cc at *;have HMi:=zH hMi;have hi0:(0:Int)<=(i:Int):=by omega
   have hi1:(i:Int)<(K.length:Int):=by omega
   obtain⟨ab,ao,asp⟩:=ad;clear hcr hone hA hLc hst hSi hMi hbr hii hcn hln had;go_wp2_with fail;refine HNR.out.mono ?_;rintro e w4 ⟨rfl,O4,hS4,hM4⟩;have hw4:=hM4.size;have c4:w4.cell? ⟨w.heap.size,0,none⟩=some (.pointer (some ⟨s,0,none⟩)):=(hM4.cell (a:=⟨w.heap.size,0,none⟩) (by show w.heap.size<_;omega) hnbi).trans cR;have hbd:zB w4 (w4.drew.alloc (.cells #[.int .i64 r.2] 3)):=((Below.refl _ w4).drew).alloc zN _;have c5:w4.drew.cell? ⟨w.heap.size,0,none⟩=some (.pointer (some ⟨s,0,none⟩)):=c4;have c6:(w4.drew.alloc (.cells #[.int .i64 r.2] 3)).cell? ⟨w.heap.size,0,none⟩=some (.pointer (some ⟨s,0,none⟩)):=(hbd.cell (p:=⟨w.heap.size,0,none⟩) (by show w.heap.size<_;omega)).trans c4;have hnb4:¬O4 w.heap.size:=hM4.beside (by omega) hnbi;have HFR:Hid (∀W g c,zB w4 W->W.cell? ⟨w.heap.size,0,none⟩=some (.pointer (some ⟨s,0,none⟩))->zeh W g [r.2]->zC 161 #[.pointer (some ⟨s,0,none⟩),.slice (some ⟨g,0,none⟩) 1 c] W fun e w'=>∃n:Int,e=.returned (.int .i64 n)/\∃O',zag w0.heap.size w' s b O' vars room (zbD r.1 (zaw r.1 [r.2]))/\za3 O4 O' W w'/\w'.cell? ⟨w.heap.size,0,none⟩=some (.pointer (some ⟨s,0,none⟩))):=fun W g c hW hcW hi=>(zvH (cp:=c) (hS4.new hW) hgood.ranked hfew (by have:=hW.size;omega) g [r.2] hi (by simp)).mono fun e w' ⟨n,he,O',h1,h2⟩=>⟨n,he,O',h1,h2,(h2.cell (a:=⟨w.heap.size,0,none⟩) (by have:=hW.size;show w.heap.size<_;omega) hnb4).trans hcW⟩;have HRN:Hid ((w4.drew.alloc (.cells #[.int .i64 r.2] 3)).ownsRow w4.heap.size 3 1 (.slice none 0 0) 0 []):=World.ownsRow_nil _ _ _ _;have HLI:Hid (∀(j:Nat) (u:Value),[Value.int .i64 r.2][j]?=some u->(w4.drew.alloc (.cells #[.int .i64 r.2] 3)).cell? ((⟨w4.heap.size,0,none⟩:Addr).add j)=some u):=zaL w4.drew r.2 3;have HLO:=zH (za4 r.2);have HQ1:Hid (0+1<=maxLen):=by show 0+1<=maxLen;unfold maxLen;omega
   have HQ2:Hid ((0+1)*8<=140737488355328):=by show (0+1)*8<=140737488355328;omega
   have HSZ:Hid (w4.heap.size<=(w4.drew.alloc (.cells #[.int .i64 r.2] 3)).heap.size):=hbd.size;have HX:Hid (∀v7 w7,w7.ownsRow w4.heap.size 3 1 v7 (0+1) ([]++[.int .i64 r.2])->(w4.drew.alloc (.cells #[.int .i64 r.2] 3)).grownBy w7 (Value.ownBlock (.slice none 0 0))->zB w4 w7/\w7.cell? ⟨w.heap.size,0,none⟩=some (.pointer (some ⟨s,0,none⟩))/\∃g c,v7=.slice (some ⟨g,0,none⟩) 1 c/\zeh w7 g [r.2]):=fun v7 w7 h1 h2=>by
    have hb7:zB w4 w7:=hbd.grown h2 hbd.size (fun k e=>by cases e);exact⟨hb7,(hb7.cell (p:=⟨w.heap.size,0,none⟩) (by show w.heap.size<_;omega)).trans c4,zto h1 hi64⟩
   have HM4:=zH (HMi.out.trans hM4);clear hS4 hM4 HNR hbd c4 cR HMi hgood hfew hi64;go_upto_region 14 with fail;go_region_held_law (fun X=>X.cell? ⟨w.heap.size,0,none⟩=some (.pointer (some ⟨s,0,none⟩))) (first|exact S2|exact S1|exact c5|exact c6)
    (first
     |(refine zi4 rfl _ _ 47 rfl w4.heap.size 3 i3 (.int .i64 0) 1 8 Tryz.underlying47 hin hz0 hz1 hz2 rfl (by decide) (.slice none 0 0) 0 [] (by simp[Act.eval]) HRN.out ⟨w4.heap.size,0,none⟩ 1 1 [.int .i64 r.2] (by simp[Act.eval]) rfl HLI.out HLO.out HQ1.out HSZ.out HQ2.out ?_;intro v7 w7 hown7 hgrow7;obtain⟨hb7,S1,g7,c7,rfl,hi7⟩:=HX.out _ _ hown7 hgrow7)
     | (go_at_call 161;refine (HFR.out _ _ _ hb7 S1 hi7).mono ?_;rintro e w8 ⟨n8,rfl,O8,hS8,hM8,S2⟩))
   all_goals
    have HFIN:Hid (zag w0.heap.size w8 s b O8 vars room (clF (K.take (i+1))).1/\za3 O O8 w2 w8):=⟨by rw[HST.out];exact hS8,(HM4.out.trans (za3.of_below O4 hb7)).trans hM8⟩;have HOV:Hid ((clF (K.take (i+1))).2=r.2):=by show _=_;rw[HST.out]
    clear hS8 hM8 hb7 hi7 hown7 hgrow7 S1 S2 c5 c6 HX HFR HRN HLI HLO HQ1 HQ2 HSZ HM4 HST;go_wp2;go_roundw
   case rel=>exact⟨i+1,O8,hlt,by go_num,by rw[HOV.out],HFIN.out.1,HFIN.out.2⟩
   case measure=>simp[intOf];omega
  ·obtain rfl:i=K.length:=by omega
   rw[List.take_length] at hSi ⊢;have HFIN:Hid (∃O',zag w0.heap.size wr s b O' vars room (clF K).1/\za3 O O' w wr):=⟨Oi,hSi,(za3.of_below O (zT HBA.out HB2.out)).trans hMi⟩;clear hSi hMi hbr cR;go_wp2;go_ret2;exact⟨rfl,HFIN.out⟩
end
end Bd
end Go.Proofs.YtiihalknffbjpaaGreatDoor
