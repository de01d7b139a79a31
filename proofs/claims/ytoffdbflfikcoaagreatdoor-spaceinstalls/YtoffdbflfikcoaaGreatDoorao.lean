import Derived.Test.YtoffdbflfikcoaaGreatDooran
import Derived.Deep.RegionHeldLaw
open Go.Proofs.Tryz
namespace Go.Proofs.YtoffdbflfikcoaaGreatDoor
set_option maxHeartbeats 4000000
set_option maxRecDepth 100000
namespace Bd
open Go.RowKit Go.Maps
def Wy.dat(x:Wy):DataW Unit:=.agg [.lit (.int .i64 x.items),.lit (.int .i64 x.cost),.lit (.bool x.can)]
theorem Wy.dat_inj{x y:Wy}(h:x.dat=y.dat):x=y:=by
 obtain⟨a,b,c⟩:=x;obtain⟨d,e,f⟩:=y;simp[Wy.dat] at h ⊢;obtain⟨h1,h2,h3⟩:=h;exact⟨by omega,h2,h3⟩
def Qo(v:Value):Option (DataW Unit × List MemPlace) :=
 match v with
 |.agg cs =>
  match cs.toList with
  |[.int .u64 a,.int .i64 b,.bool c]=>if 0<=a then some (Wy.dat ⟨a.toNat,b,c⟩,[]) else none
  |_=>none
 |_=>none
theorem JP(x:Wy):Qo x.val=some (x.dat,[]):=by
 unfold Qo Wy.val;simp
theorem zey{v:Value}{x:Wy}{ps:List MemPlace}(h:Qo v=some (x.dat,ps)):v=x.val:=by
 unfold Qo at h;split at h
 ·rename_i cs;split at h
  ·rename_i a b c e;split at h
   ·rename_i h0;simp only[zsd,Prod.mk.injEq] at h;rw[<-Wy.dat_inj h.1];have:cs=#[.int .u64 a,.int .i64 b,.bool c]:=by cases cs;simp at e;rw[e]
    rw[this];unfold Wy.val;simp only[ztV h0]
   ·cases h
  ·cases h
 ·cases h
theorem ze8(w:World):(zeroValue 152).run prog w=.ok (Wy.val ⟨0,0,false⟩) w:=by kernel_rfl
def Q6(D:DataW Unit)(L:List (Int × Wy)):Prop:=Rep I64 (fun x=>Lit.int .i64 x) Wy.dat D L
section
variable {w:World} {bm n:Nat} {D:DataW Unit} {L:List (Int × Wy)}
theorem zj0(hD:w.ownsMap prog 3 Qo bm n D)(hR:Q6 D L){p:Int × Wy}(hp:p∈L) :
  (Instr.lookup 213 (.map (some bm)) (.int .i64 p.1) true).run prog w=.ok (.tuple #[p.2.val,true]) w:=by
 obtain⟨v,ps,j,hv⟩:=hD.look_ok Ya zt7 (ze8 w) (JP ⟨0,0,false⟩) (YD (Rep.oks hR p hp));rw[Rep.at' hR p hp] at hv;rw[(Rep.has hR p.1 (Rep.oks hR p hp)).2 (zsy hp),zey hv] at j;exact j
theorem zng(hD:w.ownsMap prog 3 Qo bm n D)(hR:Q6 D L){a:Int}(ha:I64 a)(hn:a∉L.map Prod.fst) :
  (Instr.lookup 213 (.map (some bm)) (.int .i64 a) true).run prog w=.ok (.tuple #[Wy.val ⟨0,0,false⟩,false]) w:=by
 obtain⟨v,ps,j,hv⟩:=hD.look_ok Ya zt7 (ze8 w) (JP ⟨0,0,false⟩) (YD ha);have hh:=Rep.not hR ha hn;rw[atKey_of_not_has hh] at hv;rw[hh,zey hv] at j;exact j
theorem zoK(hD:w.ownsMap prog 3 Qo bm L.length D)(hR:Q6 D L)(hl:L.length<1000000){a:Int}(ha:I64 a)(hn:a∉L.map Prod.fst)(x:Wy) :
  ∃w' D',(Instr.mapUpdate 213 (.map (some bm)) (.int .i64 a) x.val).run prog w=.ok () w'/\w'.ownsMap prog 3 Qo bm (L++[(a,x)]).length D'/\Q6 D' (L++[(a,x)])/\zc (fun k=>k=bm) w w':=by
 obtain⟨w',j,h1,h2⟩:=hD.update Ya zt7 (by unfold maxLen;omega) (YD ha) (JP x);have hR':Q6 (D.put (.int .i64 a) x.dat) (L++[(a,x)]):=Rep.put hR (fun a b _ _ e=>by injection e) (fun _=>trivial) ha hn x;exact⟨w',_,j,hR'.size▸Z1 h1,hR',zc.of_grown h2 (fun i h=>by cases h;rfl)⟩
end
structure qm(C:qx)(w:World)(dk vars:Nat)(ns:List Nd)(L:List (Int × Wy)):Prop where
 hmap:∃D,w.ownsMap prog 3 Qo dk L.length D/\Q6 D L
 keys:∀p∈L,za ns p.1≠24
 vals:∀p∈L,p.2=yv C vars ns p.1
 nodup:(L.map Prod.fst).Nodup
section
variable {C:qx} {w w':World} {dk vars:Nat} {ns:List Nd} {L:List (Int × Wy)}
theorem qm.lt(h:qm C w dk vars ns L):dk<w.heap.size:=by obtain⟨D,hD,-⟩:=h.hmap;exact hD.lt
theorem qm.kept{S:Nat->Prop}(h:qm C w dk vars ns L)(hk:zc S w w')(hn:¬S dk):qm C w' dk vars ns L:=by
 obtain⟨D,hD,hR⟩:=h.hmap;exact⟨⟨D,Ql hD hk hn,hR⟩,h.keys,h.vals,h.nodup⟩
theorem qm.new(h:qm C w dk vars ns L)(hb:zB w w'):qm C w' dk vars ns L:=h.kept (zc.of_below hb (fun _=>False)) (fun h=>h)
theorem qm.len(h:qm C w dk vars ns L):L.length<=ns.length:=by
 have h1:(L.map fun p=>pl p.1).length<=ns.length:=by
  refine XU _ _ ?_ ?_
  ·have:=h.nodup;rw[ztK,List.pairwise_map] at this ⊢;refine List.Pairwise.imp_of_mem ?_ this;intro a b ha hb j e;have h1:=xo (h.keys a ha);have h2:=xo (h.keys b hb);apply j;rw[h1.2.2.2,h2.2.2.2,e]
  ·intro x hx;obtain⟨p,hp,rfl⟩:=zrA.1 hx;exact(xo (h.keys p hp)).2.1
 simpa using h1
end
end Bd
namespace Bd
open Go.RowKit Go.Maps Go.Deep
attribute [local go_sem] Oper.semAt_some
def xd(ns:List Nd)(c:List Int):List Nd × Int:=if qI (zn c)=true then (ns,1) else ym ns (ql (zn c))
section
variable {B s b:Nat} {O:Nat->Prop} {vars:Nat} {room:Int} {ns:List Nd} {w:World}
structure Xy(B:Nat)(w:World)(vars:Nat)(room:Int)(ns:List Nd):Prop where
 r:room<=4000
 l:((2*2^vars+25*vars:Nat):Int)<=room+1
 good:zG vars ns
 v:vars<=10
 cnt:cnt ns+1<=2^vars
 len:ns.length<=2*2^vars+600
 hB:B<=w.heap.size
theorem XQ{vars:Nat}(h:vars<=10):2^vars<=1024:=zrt (by omega) h
theorem zbC{ns:List Nd}{w:World}(hr:room<=4000)(hl:((2*2^vars+25*vars:Nat):Int)<=room+1)(h:cnt ns+2^vars<=2*2^vars+25*vars)(hn:ns.length+2^vars<=90000)(hv:vars<=12)(hB:B<=w.heap.size):QM B w vars room ns:=⟨hr,Int.le_trans (Int.ofNat_le.2 h) hl,hn,hv,hB⟩
theorem zn5(hS:zt B w s b O vars room ns)(c:List Int)(ha:qI (zn c)=true)(a:Option Addr)(cap:Nat)(hI:qO w a c)(hm:c.length<=9223372036854775807) :
  zC 100 #[.pointer (some s),.slice a c.length cap] w (yD B s b O vars room (ns,1) w):=by
 have k0:=((Blk.new w 35 #[.pointer (some s)]).alloc (.cells #[(0:Int)] 3)).alloc (.cells #[.nilIface] 31);have k1:=(Blk.new (w.alloc (.cells #[.pointer (some s)] 35)) 3 #[(0:Int)]).alloc (.cells #[.nilIface] 31);have k2:=Blk.new ((w.alloc (.cells #[.pointer (some s)] 35)).alloc (.cells #[(0:Int)] 3)) 31 #[.nilIface];simp only[zc1] at k1 k2;have q:zB w (((w.alloc (.cells #[.pointer (some s)] 35)).alloc (.cells #[(0:Int)] 3)).alloc (.cells #[.nilIface] 31)):=(((zf0 _ w).alloc zN _).alloc (by simp only[zc1];omega) _).alloc (by simp only[zc1];omega) _;have j:=zdJ c a cap _ (hI.below q) hm;have y:Xh c=([],true):=by unfold Xh;rw[zc3 ha]
 rw[y] at j;have HF:=zH j;have J:=zH q;have HS:=zH hS;have K1:=zH k1;have K2:=zH k2;clear j q hI hS k0 k1 k2 ha y;go_enter func100,ntmps100;go_wp2_with fail;refine HF.out.mono ?_;rintro e w1 ⟨⟨a1,c1,rfl,-⟩,o⟩;have u:=zT J.out o;have j1:=K1.out.below o K1.out.lt;have j2:=K2.out.below o K2.out.lt;have e1:=j1.cell 0;have f1:=j1.frozen 0;have e2:(w1.setCell ⟨w.heap.size+1,0,none⟩ (.int .i64 1)).cell? ⟨w.heap.size+1+1,0,none⟩=some .nilIface:=(j2.other (by omega)).cell 0;have f2:(w1.setCell ⟨w.heap.size+1,0,none⟩ (.int .i64 1)).frozen? ⟨w.heap.size+1+1,0,none⟩=false:=(j2.other (by omega)).frozen 0;have r1:((w1.setCell ⟨w.heap.size+1,0,none⟩ (.int .i64 1)).setCell ⟨w.heap.size+1+1,0,none⟩ .nilIface).cell? ⟨w.heap.size+1,0,none⟩=some (.int .i64 1):=((j1.set (i:=0) (v:=.int .i64 1)).other (by omega)).cell 0;have r2:((w1.setCell ⟨w.heap.size+1,0,none⟩ (.int .i64 1)).setCell ⟨w.heap.size+1+1,0,none⟩ .nilIface).cell? ⟨w.heap.size+1+1,0,none⟩=some .nilIface:=((j2.other (by omega)).set (i:=0) (v:=.nilIface)).cell 0;have HB:Hid (zB w ((w1.setCell ⟨w.heap.size+1,0,none⟩ (.int .i64 1)).setCell ⟨w.heap.size+1+1,0,none⟩ .nilIface)):=(u.setCell (p:=⟨w.heap.size+1,0,none⟩) (by show w.heap.size<=w.heap.size+1;omega) _).setCell (p:=⟨w.heap.size+1+1,0,none⟩) (by show w.heap.size<=w.heap.size+1+1;omega) _;clear o u HF j1 j2 K1 K2;go_wp2;refine zc4 (v:=.tuple #[(1:Int),.nilIface]) (by simp[results,Tryz.f100,go_sem,r1,r2]) rfl ?_;exact⟨rfl,O,HS.out.new HB.out,zP.of_below O HB.out⟩
theorem zjw(hS:zt B w s b O vars room ns)(hA:Xy B w vars room ns)(c:List Int)(ha:qI (zn c)=false)(hl:qk vars c)(a:Option Addr)(cap:Nat)(hI:qO w a c)(hm:c.length<=9223372036854775807) :
  CallsIn Fence.wide 4 prog 100 #[.pointer (some s),.slice a c.length cap] w (yD B s b O vars room (ym ns (ql (zn c))) w):=by
 have k0:=((Blk.new w 35 #[.pointer (some s)]).alloc (.cells #[(0:Int)] 3)).alloc (.cells #[.nilIface] 31);have k1:=(Blk.new (w.alloc (.cells #[.pointer (some s)] 35)) 3 #[(0:Int)]).alloc (.cells #[.nilIface] 31);have k2:=Blk.new ((w.alloc (.cells #[.pointer (some s)] 35)).alloc (.cells #[(0:Int)] 3)) 31 #[.nilIface];simp only[zc1] at k1 k2;have aK:zB w (((w.alloc (.cells #[.pointer (some s)] 35)).alloc (.cells #[(0:Int)] 3)).alloc (.cells #[.nilIface] 31)):=(((zf0 _ w).alloc zN _).alloc (by simp only[zc1];omega) _).alloc (by simp only[zc1];omega) _;have a0:=zdJ c a cap _ (hI.below aK) hm;have b3:Xh c=(ql (zn c),false):=by unfold Xh;rw[zc2 (by rw[ha];simp)]
 rw[b3] at a0;have a5:qk 24 c:=fun x hx=>Yd (by have:=hA.v;omega) (hl x hx);have ar:∀x∈ql (zn c),zU x<vars:=fun x hx=>YY (hl x ((QG a5 ha).1 hx));have ao:∀x∈ql (zn c),yt 24 x=true:=fun x hx=>a5 x ((QG a5 ha).1 hx);have bC:=zfn (show vars<=24 by have:=hA.v;omega) hl;have a2:=hA.r;have a7:=zH hA.l;generalize ql (zn c)=xs at *;have bk:=XQ hA.v;have bj:=zr1 (n:=vars);have bw:=hA.cnt;have bz:=hA.len;have b8:Hid (∀ys:List Int,ys.length<=24->(∀x∈ys,zU x<vars)->EiR vars ns ys (ym ns ys)):=fun ys h1 h2=>XD hA.good (by have:=hA.v;omega) (by omega) (by omega) (by omega) ys (by omega) h2;have HF:=zH (callsIn_wide (n:=3).2 a0);have aO:=zH aK;have HS:=zH hS;have HA:=zH hA;have aF:=zH ao;have aG:=zH ar;have K0:=zH k0;have K1:=zH k1;have K2:=zH k2;have Y:=fun k h=>(hS.own k h).2;have bB:=hS.slt;have b6:vars<=10:=hA.v;clear a0 aK hI hS hA k0 k1 k2 ha b3 hl a5 ar ao;refine callsIn_of_wp_marks func100 rfl trivial ?_ rfl;simp only[ntmps100,zrT,zrb,zrY,Nat.reduceAdd,Nat.reduceSub,zr6,zr5,zsq,zsb,zrX,zrL]
 gi_wp2_with fail
 refine⟨trivial,?_⟩;refine HF.out.mono ?_;rintro e w1 ⟨⟨a1,c1,rfl,ae⟩,ah⟩;have b1:=zT aO.out ah;have j0:=K0.out.below ah K0.out.lt;have j1:=K1.out.below ah K1.out.lt;have j2:=K2.out.below ah K2.out.lt;have bq:=ah.size;simp only[zc1] at bq;clear HF K0 K1 K2 aO ah;have aR:Hid (CallsIn Fence.wide 3 prog 150 #[.slice a1 xs.length c1] (w1.alloc (.cells #[(0:Int)] 3)) fun e w'=>e=.returned (.func (.func 199) #[] #[.pointer (some ⟨w1.heap.size+1,0,none⟩)])/\w'=(w1.alloc (.cells #[(0:Int)] 3)).alloc (.cells #[.slice a1 xs.length c1] 117)):=by
  have:=zlo a1 xs.length c1 (w1.alloc (.cells #[(0:Int)] 3));rw[zc1] at this;exact this
 gi_wp2_with fail
 refine⟨trivial,?_⟩;refine aR.out.mono ?_;rintro e w' ⟨rfl,rfl⟩;clear aR;have l0:=(j0.alloc (.cells #[(0:Int)] 3)).alloc (.cells #[.slice a1 xs.length c1] 117);have l1:=(j1.alloc (.cells #[(0:Int)] 3)).alloc (.cells #[.slice a1 xs.length c1] 117);have l2:=(j2.alloc (.cells #[(0:Int)] 3)).alloc (.cells #[.slice a1 xs.length c1] 117);have l3:=(Blk.new w1 3 #[(0:Int)]).alloc (.cells #[.slice a1 xs.length c1] 117);have l4:=Blk.new (w1.alloc (.cells #[(0:Int)] 3)) 117 #[.slice a1 xs.length c1];simp only[zc1] at l4;have az:zB w1 ((w1.alloc (.cells #[(0:Int)] 3)).alloc (.cells #[.slice a1 xs.length c1] 117)):=((zf0 _ w1).alloc zN _).alloc (by simp only[zc1];omega) _;have b5:((w1.alloc (.cells #[(0:Int)] 3)).alloc (.cells #[.slice a1 xs.length c1] 117)).heap.size=w1.heap.size+1+1:=by simp only[zc1]
 have a3:=zA ae az;have ac:=ae.lt;simp only[zc1] at ac;obtain⟨W0,b0⟩:∃W0,(w1.alloc (.cells #[(0:Int)] 3)).alloc (.cells #[.slice a1 xs.length c1] 117)=W0:=⟨_,rfl⟩;rw[b0] at l0 l1 l2 l3 l4 az b5 a3 ⊢;clear b0 ae;have aL:zB w W0:=zT b1 az;have bu:=zH b5;have aW:qO W0 a1 xs:=Xr a3;have aj:∀k,O k->k<W0.heap.size:=fun k h=>by have:=Y k h;omega
 have hQ:∀i,i<xs.length->(yt 24 (xs.getD i 0)=true/\zU (xs.getD i 0)<vars):=fun i hi=>⟨aF.out _ (Zk hi),aG.out _ (Zk hi)⟩;have aM:=zna (w1.heap.size + 1) (fun k=>k<W0.heap.size/\¬ O k/\k ≠ w1.heap.size) (fun x=>yt 24 x=true/\zU x<vars) xs a1 c1 (by omega) hQ W0 ⟨by omega,fun h=>by have:=Y _ h;omega,by omega⟩ (fun k h=>h.1) (l4.cell 0) (fun i hi=>by
  obtain⟨ad,e,h1,h2⟩:=aW i hi;subst e;have bA:=ac ad.block rfl;exact ⟨ad,rfl,⟨h1,fun h=>by have:=Y _ h;omega,by omega⟩,h2⟩)
 have h0:EI B s b vars room O w1.heap.size W0 ns (xj ([]:List (PQ (fun x=>yt 24 x=true/\zU x<vars)))) W0:=⟨O,HS.out.new aL,MM.refl O _ W0,l3.cell 0,l3.frozen 0⟩;have bd:=zH l0;have aS:=zH l1;have aT:=zH l2;have b7:=zH aL;have bv:B<=W0.heap.size:=by have:=HA.out.hB;omega
 clear l0 l1 l2 l3 l4 a3 aW az b1 j0 j1 j2 hQ aL ac
 gi_wp2_with fail
 refine wpIn_rangeFunc_ownG rfl (by omega) (gf:=199) (lb:=#[.pointer (some ⟨w1.heap.size+1,0,none⟩)]) rfl trivial (enters_of func199 (by kernel_rfl) rfl)
  aM QR (zp2 (fun k h=>h.1)) zF (fun _=>rfl)
  (fun a4 W=>EI B s b vars room O w1.heap.size W0 ns (xj a4) W) (fun _ _ _=>False)
  (EI.own aj (by omega) (by omega) ns) (fun _ _ _ _ _ h _ _=>h)
  h0 (fun x=>{ tmps:=#[.pointer (some s),.slice a c.length cap,.pointer (some w),undef,.pointer (some ⟨w.heap.size+1,0,none⟩),.pointer (some ⟨w.heap.size+1+1,0,none⟩),.slice a1 xs.length c1,.bool false,.pointer (some w1),undef,.int .i64 x.1.2,undef,undef,.tuple #[.slice a1 xs.length c1,false],.slice a c.length cap,.tuple #[.slice a1 xs.length c1,false],.slice a1 xs.length c1,.bool false,.bool false,.slice a1 xs.length c1,.func (.func 199) #[] #[.pointer (some ⟨w1.heap.size+1,0,none⟩)],.int .i64 x.1.1,.int .i64 x.1.2,undef,undef,undef,undef,undef,undef,undef,undef,undef,undef,undef,undef,undef,undef,undef,undef,undef,undef,undef,undef,undef,undef,undef],defers:=[] }) ?assign ?body ?done ?stop
 case assign =>
  intro l x W K hK;unfold JT
  gi_wp2
  exact hK
 case stop=>exact fun _ _ _ _ _ _ h _=>h.elim
 case body =>
  rintro l a4 x W ⟨O1,ag,p,hc,hf⟩ hlen;obtain⟨bl,bn⟩:=x.2;have bD:=zjr a4;have hE:=b8.out (xj a4) (by omega) (fun y hy=>(zi4 a4 y hy).2);have aw:Hid (ym ns (xj (a4++[x]))=YJ (ym ns (xj a4)) x.1.2):=by show _=_;rw[zqB];rfl
  have bg:=hE.cnt;have bh:=hE.tight;generalize ym ns (xj a4)=st at *;generalize hx:x.1.2=xv at *;have V:¬O1 w1.heap.size:=p.beside (by omega) (fun h=>by have:=Y _ h;omega);have aq:¬O1 w.heap.size:=p.beside (by omega) (fun h=>by have:=Y _ h;omega);have bf:=p.size;have d0:W.drew.cell? w.heap.size=some (.pointer (some s)):=(p.cell (a:=w) (by show w.heap.size<_;omega) (fun h=>by have:=Y w.heap.size h;omega) (by show w.heap.size≠_;omega)).trans (bd.out.cell 0);have ai:zB W W.drew:=zF.drew;have aI:=zmY (v:=(zU xv:Int)) (is:=decide (0<xv)) (ag.new ai) (zbC a2 a7.out (by omega) (by omega) (by omega) (by show B<=W.heap.size;omega)) (by omega) (by omega);have aY:=zgD hE.good (v:=(zU xv:Int)) (decide (0<xv)) (by omega) (by omega) (by omega) (by omega);have ay:=zfV hE.good bn (by omega) (by omega);have b9:Hid (YJ st xv=xI true (ZA st.1 xv).1 ⟨(ZA st.1 xv).2,1,st.2⟩):=rfl;change Calls _ _ _ _ (yD B s b O1 vars room (ZA st.1 xv) W.drew) at aI;change cnt (ZA st.1 xv).1<=_/\(ZA st.1 xv).1.length<=_ at aY;have aZ:Hid (∀O2 X,zt B X s b O2 vars room (ZA st.1 xv).1->B<=X.heap.size->zC 152 #[.pointer (some s),.int .i64 (ZA st.1 xv).2,st.2] X (yD B s b O2 vars room (YJ st xv) X)):=fun O2 X h1 h2=>zij h1 ay.good (zbC a2 a7.out (by omega) (by omega) (by omega) h2) _ _ ay.has (ay.ext.has _ hE.has);generalize YJ st xv=r2 at *;generalize ZA st.1 xv=r1 at *;have ax:Hid (∀X:World,CallsIn Fence.wide 1 prog 98 #[xv] X fun e w'=>e=.returned (.int .i64 (zU xv))/\X=w'):=fun X=>callsIn_wide.2 (zeg xv bl X);have av:Hid (CallsIn Fence.wide 1 prog 151 #[.pointer (some s),(zU xv),.bool (decide (0<xv))] W.drew (yD B s b O1 vars room r1 W.drew)):=callsIn_wide.2 aI;have bi:prog.follows .mixedOrders=true:=by kernel_rfl
  have aU:=zH p;have aA:W.drew.cell? w1.heap.size=some (.int .i64 st.2):=hc;have aQ:Hid (W.drew.frozen? w1.heap.size=false):=hf;have aP:Hid (∀k,O1 k->W0.heap.size<=k->qj W.drew k):=fun k h1 h2=>p.from aj h1 h2;have a6:Hid (∀k,(k<W0.heap.size/\¬O k/\k≠w1.heap.size)->k<W.heap.size/\¬O1 k):=fun k h=>⟨by omega,p.beside h.1 h.2.1⟩;clear aM h0 aI hE bg bh aY ay ag p hc hf b9 ai
  gi_wp2_with fail
  refine zcT bi ?nd ?any
  case nd =>intro j o h c hc;have hm:=zuK h;simp at hm;rcases hm with rfl|rfl|rfl|rfl|rfl|rfl|rfl|rfl|rfl|rfl|rfl<;>cases hc
  case any =>
   refine wpAnyIn_take (i:=1) (v:=.int .i64 xv) rfl rfl (by kernel_rfl) (by kernel_rfl) (by kernel_rfl) (fun _ _ _ h=>h) ⟨Or.inl ⟨by rfl,by intro w;go_simp⟩,fun _=>rfl⟩ ?_;refine wpAnyIn_take (i:=3) (v:=.int .i64 xv) rfl rfl (by kernel_rfl) (by kernel_rfl) (by kernel_rfl) (fun _ _ _ h=>h) ⟨Or.inl ⟨by rfl,by intro w;go_simp⟩,fun _=>rfl⟩ ?_;refine wpAnyIn_take (i:=4) (v:=.bool (decide (0<xv))) rfl rfl (by kernel_rfl) (by kernel_rfl) (by kernel_rfl) (fun _ _ _ h=>h) ⟨Or.inl ⟨by rfl,by intro w;go_simp⟩,fun _=>rfl⟩ ?_;refine wpAnyIn_ready (rs:=[0,2]) (by kernel_rfl) (by simp) ?_;refine AllReadyIn.cons rfl (fun K hK=>?_) (AllReadyIn.cons rfl (fun K hK=>?_) AllReadyIn.nil)
   ·skip
    go_simp;refine hK _ _ ?_;clear hK K;refine wpAnyIn_ready (rs:=[2]) (by kernel_rfl) (by simp) ?_;refine AllReadyIn.cons rfl (fun K hK=>?_) AllReadyIn.nil;go_simp
    gi_wp2_with (refine⟨trivial,?_⟩;gi_at_call 98;refine(ax.out _).mono ?_;rintro e wT ⟨rfl,rfl⟩)
    refine wpAnyIn_ready (rs:=[5]) (by kernel_rfl) (by simp) ?_;refine AllReadyIn.cons rfl (fun K hK=>?_) AllReadyIn.nil;go_simp
    gi_wp2_with (refine⟨trivial,?_⟩;gi_at_call 151;refine(av.out).mono ?_;rintro e wT ⟨rfl,O2,am,q⟩)
    refine wpAnyIn_take (i:=6) (v:=.tuple #[r1.2,.nilIface]) rfl rfl (by kernel_rfl) (by kernel_rfl) (by kernel_rfl) (fun _ _ _ h=>h) ⟨Or.inl ⟨by rfl,by intro w;go_simp⟩,fun _=>rfl⟩ ?_;refine wpAnyIn_take (i:=7) (v:=.int .i64 r1.2) rfl rfl (by kernel_rfl) (by kernel_rfl) (by kernel_rfl) (fun _ _ _ h=>h) ⟨Or.inl ⟨by rfl,by intro w;go_simp⟩,fun _=>rfl⟩ ?_;refine wpAnyIn_take (i:=9) (v:=.int .i64 r1.2) rfl rfl (by kernel_rfl) (by kernel_rfl) (by kernel_rfl) (fun _ _ _ h=>h) ⟨Or.inl ⟨by rfl,by intro w;go_simp⟩,fun _=>rfl⟩ ?_;refine wpAnyIn_take (i:=8) (v:=.nilIface) rfl rfl (by kernel_rfl) (by kernel_rfl) (by kernel_rfl) (fun _ _ _ h=>h) ⟨Or.inl ⟨by rfl,by intro w;go_simp⟩,fun _=>rfl⟩ ?_;refine wpAnyIn_take (i:=10) (v:=.nilIface) rfl rfl (by kernel_rfl) (by kernel_rfl) (by kernel_rfl) (fun _ _ _ h=>h) ⟨Or.inl ⟨by rfl,by intro w;go_simp⟩,fun _=>rfl⟩ ?_;refine wpAnyIn_done (by kernel_rfl) ?_ _;have bo:W.heap.size<=wT.heap.size:=q.size;have ai:zB W W.drew:=zF.drew;have M:w1.heap.size<W.drew.heap.size:=by show w1.heap.size<W.heap.size;omega
    have af:w.heap.size<W.drew.heap.size:=by show w.heap.size<W.heap.size;omega
    have d2:wT.cell? w.heap.size=some (.pointer (some s)):=(q.cell (a:=w) af aq).trans d0;have c2:wT.cell? w1.heap.size=some (.int .i64 st.2):=(q.cell (a:=w1) M V).trans aA;have R:¬O2 w1.heap.size:=q.beside M V;have ak:=zH (CallsIn.inRound l (callsIn_wide (n:=1).2 (aZ.out O2 wT am (by omega))));have aN:MM O O1 w1.heap.size W0 W.drew:=aU.out.trans (MM.of_below ai);have au:=aN.trans (MM.of_moves (dm:=w1.heap.size) q);have Z:=zH q;have u:=zH au;have f2:wT.frozen? w1.heap.size=false:=(X3 (a:=w1) (q.kept.block w1.heap.size M V)).trans aQ.out;have aC:=zH f2;clear q au f2 am d0 aA ax av
    gi_wp2_with fail
    refine⟨trivial,?_⟩;refine ak.out.mono ?_;rintro e w3 ⟨rfl,O3,an,J⟩;have U:w1.heap.size<wT.heap.size:=by omega
    have c3:w3.cell? w1.heap.size=some (.int .i64 st.2):=(J.cell (a:=w1) U R).trans c2;have f3:w3.frozen? w1.heap.size=false:=(X3 (a:=w1) (J.kept.block w1.heap.size U R)).trans aC.out;have a9:¬O3 w1.heap.size:=J.beside U R;have aD:Hid (KeepsFrom W0.heap.size W (w3.setCell w1 (.int .i64 r2.2))):=((((KeepsOthers.drew W).from _).trans (JN Z.out aP.out)).trans (JN J (fun k h1 h2=>u.out.from aj h1 h2))).trans ((KeepsOthers.setCell _ _ _).from _);have aE:Hid (KpR (fun k=>k<W0.heap.size/\¬O k/\k≠w1.heap.size) W (w3.setCell w1 (.int .i64 r2.2))):=QR (QR (QR (zdN W) (JF Z.out (fun k h=>a6.out k h))) (JF J (fun k h=>⟨zc6 (a6.out k h).1 Z.out.size,Z.out.beside (a6.out k h).1 (a6.out k h).2⟩))) (zgV (fun k h=>h.2.2) _ _);have aB:Hid (EI B s b vars room O w1.heap.size W0 ns (xj (a4++[x])) (w3.setCell w1 (.int .i64 r2.2))):=by
     refine⟨O3,?_,(u.out.trans (MM.of_moves (dm:=w1.heap.size) J)).set _,?_,?_⟩
     ·rw[aw.out];exact an.kept (zc.setCell (S:=fun j=>j=w1.heap.size) w3 w1.heap.size _ rfl) (fun k hk e=>a9 (e▸hk)) (fun e=>by omega)
     ·rw[aw.out];exact zrD _ _ _ c3
     ·rw[zrE];exact f3
    clear an J ak Z u c2 d2
    gi_wp2
    exact⟨aD.out,aE.out,aB.out⟩
   ·skip
    go_simp
    gi_wp2_with (refine⟨trivial,?_⟩;gi_at_call 98;refine(ax.out _).mono ?_;rintro e wT ⟨rfl,rfl⟩)
    refine wpAnyIn_ready (rs:=[0]) (by kernel_rfl) (by simp) ?_;refine AllReadyIn.cons rfl (fun K hK=>?_) AllReadyIn.nil;go_simp;refine hK _ _ ?_;clear hK K;refine wpAnyIn_ready (rs:=[5]) (by kernel_rfl) (by simp) ?_;refine AllReadyIn.cons rfl (fun K hK=>?_) AllReadyIn.nil;go_simp
    gi_wp2_with (refine⟨trivial,?_⟩;gi_at_call 151;refine(av.out).mono ?_;rintro e wT ⟨rfl,O2,am,q⟩)
    refine wpAnyIn_take (i:=6) (v:=.tuple #[r1.2,.nilIface]) rfl rfl (by kernel_rfl) (by kernel_rfl) (by kernel_rfl) (fun _ _ _ h=>h) ⟨Or.inl ⟨by rfl,by intro w;go_simp⟩,fun _=>rfl⟩ ?_;refine wpAnyIn_take (i:=7) (v:=.int .i64 r1.2) rfl rfl (by kernel_rfl) (by kernel_rfl) (by kernel_rfl) (fun _ _ _ h=>h) ⟨Or.inl ⟨by rfl,by intro w;go_simp⟩,fun _=>rfl⟩ ?_;refine wpAnyIn_take (i:=9) (v:=.int .i64 r1.2) rfl rfl (by kernel_rfl) (by kernel_rfl) (by kernel_rfl) (fun _ _ _ h=>h) ⟨Or.inl ⟨by rfl,by intro w;go_simp⟩,fun _=>rfl⟩ ?_;refine wpAnyIn_take (i:=8) (v:=.nilIface) rfl rfl (by kernel_rfl) (by kernel_rfl) (by kernel_rfl) (fun _ _ _ h=>h) ⟨Or.inl ⟨by rfl,by intro w;go_simp⟩,fun _=>rfl⟩ ?_;refine wpAnyIn_take (i:=10) (v:=.nilIface) rfl rfl (by kernel_rfl) (by kernel_rfl) (by kernel_rfl) (fun _ _ _ h=>h) ⟨Or.inl ⟨by rfl,by intro w;go_simp⟩,fun _=>rfl⟩ ?_;refine wpAnyIn_done (by kernel_rfl) ?_ _;have bo:W.heap.size<=wT.heap.size:=q.size;have ai:zB W W.drew:=zF.drew;have M:w1.heap.size<W.drew.heap.size:=by show w1.heap.size<W.heap.size;omega
    have af:w.heap.size<W.drew.heap.size:=by show w.heap.size<W.heap.size;omega
    have d2:wT.cell? w.heap.size=some (.pointer (some s)):=(q.cell (a:=w) af aq).trans d0;have c2:wT.cell? w1.heap.size=some (.int .i64 st.2):=(q.cell (a:=w1) M V).trans aA;have R:¬O2 w1.heap.size:=q.beside M V;have ak:=zH (CallsIn.inRound l (callsIn_wide (n:=1).2 (aZ.out O2 wT am (by omega))));have aN:MM O O1 w1.heap.size W0 W.drew:=aU.out.trans (MM.of_below ai);have au:=aN.trans (MM.of_moves (dm:=w1.heap.size) q);have Z:=zH q;have u:=zH au;have f2:wT.frozen? w1.heap.size=false:=(X3 (a:=w1) (q.kept.block w1.heap.size M V)).trans aQ.out;have aC:=zH f2;clear q au f2 am d0 aA ax av
    gi_wp2_with fail
    refine⟨trivial,?_⟩;refine ak.out.mono ?_;rintro e w3 ⟨rfl,O3,an,J⟩;have U:w1.heap.size<wT.heap.size:=by omega
    have c3:w3.cell? w1.heap.size=some (.int .i64 st.2):=(J.cell (a:=w1) U R).trans c2;have f3:w3.frozen? w1.heap.size=false:=(X3 (a:=w1) (J.kept.block w1.heap.size U R)).trans aC.out;have a9:¬O3 w1.heap.size:=J.beside U R;have aD:Hid (KeepsFrom W0.heap.size W (w3.setCell w1 (.int .i64 r2.2))):=((((KeepsOthers.drew W).from _).trans (JN Z.out aP.out)).trans (JN J (fun k h1 h2=>u.out.from aj h1 h2))).trans ((KeepsOthers.setCell _ _ _).from _);have aE:Hid (KpR (fun k=>k<W0.heap.size/\¬O k/\k≠w1.heap.size) W (w3.setCell w1 (.int .i64 r2.2))):=QR (QR (QR (zdN W) (JF Z.out (fun k h=>a6.out k h))) (JF J (fun k h=>⟨zc6 (a6.out k h).1 Z.out.size,Z.out.beside (a6.out k h).1 (a6.out k h).2⟩))) (zgV (fun k h=>h.2.2) _ _);have aB:Hid (EI B s b vars room O w1.heap.size W0 ns (xj (a4++[x])) (w3.setCell w1 (.int .i64 r2.2))):=by
     refine⟨O3,?_,(u.out.trans (MM.of_moves (dm:=w1.heap.size) J)).set _,?_,?_⟩
     ·rw[aw.out];exact an.kept (zc.setCell (S:=fun j=>j=w1.heap.size) w3 w1.heap.size _ rfl) (fun k hk e=>a9 (e▸hk)) (fun e=>by omega)
     ·rw[aw.out];exact zrD _ _ _ c3
     ·rw[zrE];exact f3
    clear an J ak Z u c2 d2
    gi_wp2
    exact⟨aD.out,aE.out,aB.out⟩
 case done =>
  rintro D ys WF hD br ⟨O1,ag,p,hc,hf⟩ hK;rw[znN br] at ag hc;have aX:=Xs hK rfl;have bp:=p.size;have g1:WF.cell? ⟨w.heap.size+1,0,none⟩=some (.int .i64 0):=(p.cell (a:=⟨w.heap.size+1,0,none⟩) (by show w.heap.size+1<_;omega) (fun h=>by have:=Y (w.heap.size+1) h;omega) (by show w.heap.size+1≠_;omega)).trans (aS.out.cell 0);have g2:WF.cell? ⟨w.heap.size+1+1,0,none⟩=some .nilIface:=(p.cell (a:=⟨w.heap.size+1+1,0,none⟩) (by show w.heap.size+1+1<_;omega) (fun h=>by have:=Y (w.heap.size+1+1) h;omega) (by show w.heap.size+1+1≠_;omega)).trans (aT.out.cell 0);have e1:WF.frozen? ⟨w.heap.size+1,0,none⟩=false:=(p.frozen (a:=⟨w.heap.size+1,0,none⟩) (by show w.heap.size+1<_;omega) (fun h=>by have:=Y (w.heap.size+1) h;omega) (by show w.heap.size+1≠_;omega)).trans (aS.out.frozen 0);have e2:(WF.setCell ⟨w.heap.size+1,0,none⟩ (.int .i64 (ym ns xs).2)).frozen? ⟨w.heap.size+1+1,0,none⟩=false:=by
   rw[zrE];exact(p.frozen (a:=⟨w.heap.size+1+1,0,none⟩) (by show w.heap.size+1+1<_;omega) (fun h=>by have:=Y (w.heap.size+1+1) h;omega) (by show w.heap.size+1+1≠_;omega)).trans (aT.out.frozen 0)
  have g3:(WF.setCell ⟨w.heap.size+1,0,none⟩ (.int .i64 (ym ns xs).2)).cell? ⟨w.heap.size+1+1,0,none⟩=some .nilIface:=(zrc _ _ _ _ (by intro h;injection h;omega)).trans g2;obtain⟨W9,a8⟩:∃W9,(WF.setCell ⟨w.heap.size+1,0,none⟩ (.int .i64 (ym ns xs).2)).setCell ⟨w.heap.size+1+1,0,none⟩ .nilIface=W9:=⟨_,rfl⟩;have r1:W9.cell? ⟨w.heap.size+1,0,none⟩=some (.int .i64 (ym ns xs).2):=by rw[<-a8];exact(zrc _ _ _ _ (by intro h;injection h;omega)).trans (zrD _ _ _ g1)
  have r2:W9.cell? ⟨w.heap.size+1+1,0,none⟩=some .nilIface:=by rw[<-a8];exact zrD _ _ _ g3
  have aH:W9.heap[D]?=some (.deferred (some [])):=by rw[<-a8];exact((KeepsOthers.setCell _ _ _).trans (KeepsOthers.setCell _ _ _)).same D _ hK rfl
  have aa:zc (fun k=>k=w.heap.size+1\/k=w.heap.size+1+1) WF W9:=by rw[<-a8];exact(zc.setCell WF ⟨w.heap.size+1,0,none⟩ _ (.inl rfl)).andThen (zc.setCell _ ⟨w.heap.size+1+1,0,none⟩ _ (.inr rfl:(fun k=>k=w.heap.size+1\/k=w.heap.size+1+1) (w.heap.size+1+1))) (fun i h _=>h)
  have b2:∀k,qj WF k->qj W9 k:=fun k h=>by rw[<-a8];exact zb7 (zb7 h _ _) _ _
  have b4:¬qj W9 D:=Xs aH rfl;have bs:(W9.putObj D (.deferred none)).cell? ⟨w.heap.size+1,0,none⟩=some (.int .i64 (ym ns xs).2):=(zbw (a:=⟨w.heap.size+1,0,none⟩) (World.putObj_heap_other (by show w.heap.size+1≠D;omega))).trans r1;have bt:(W9.putObj D (.deferred none)).cell? ⟨w.heap.size+1+1,0,none⟩=some .nilIface:=(zbw (a:=⟨w.heap.size+1+1,0,none⟩) (World.putObj_heap_other (by show w.heap.size+1+1≠D;omega))).trans r2;have ab:zc (fun k=>k=D) W9 (W9.putObj D (.deferred none)):=zc.of_grown (grownBy_putObj' W9 D _) (fun i e=>by cases e;rfl);have aJ:∀k,k<W0.heap.size->¬O k->¬O1 k:=fun k h1 h2=>p.beside h1 h2;have aV:¬O1 D:=p.out aj hD aX;have bb:Hid (zt B (W9.putObj D (.deferred none)) s b O1 vars room (ym ns xs).1):=(ag.kept aa (fun k hk e=>by
   rcases e with rfl|rfl
   ·exact aJ _ (by omega) (fun h=>by have:=Y _ h;omega) hk
   ·exact aJ _ (by omega) (fun h=>by have:=Y _ h;omega) hk) (fun e=>by omega)).kept ab (fun k hk e=>aV (e ▸ hk)) (fun e=>by omega)
  have ba:Hid (zP O O1 w (W9.putObj D (.deferred none))):=zkT b7.out (by omega) p ((aa.mono (T:=fun k=>w.heap.size<=k) (fun i h=>by show w.heap.size<=i;omega)).andThen ab (fun i e _=>by show w.heap.size<=i;omega)) (fun k h=>zp5 (b2 k h) b4 _);have bc:=zH aH;have be:=zH a8;clear ag p hK aX aH aa ab b2 b4 aJ aV aM h0 hf a8
  gi_wp2_with fail
  rw[be.out];refine⟨by simp,.inl ⟨_,_,rfl,run_takeDeferred bc.out,?_⟩⟩;refine⟨.tuple #[.int .i64 (ym ns xs).2,.nilIface],?_,?_⟩
  ·simp[results,Tryz.f100,go_sem,bs,bt]
  ·exact⟨rfl,O1,bb.out,ba.out⟩
theorem znr(hS:zt B w s b O vars room ns)(hA:Xy B w vars room ns)(c:List Int)(hl:qk vars c)(a:Option Addr)(cap:Nat)(hI:qO w a c)(hm:c.length<=9223372036854775807) :
  zC 100 #[.pointer (some s),.slice a c.length cap] w (yD B s b O vars room (xd ns c) w):=by
 unfold xd;cases ha:qI (zn c) with
 |true=>rw[zc3 rfl];exact zn5 hS c ha a cap hI hm
 |false=>rw[zc2 (by simp)];exact(callsIn_wide (n:=4)).1 (zjw hS hA c ha hl a cap hI hm)
end
end Bd
namespace Bd
open Go.RowKit Go.Maps Go.Deep
theorem zm1{P:Program}{ops:Array Oper}{o:Oper}{a:Act}{w:World}{K:Act->World->Prop}{Q:Exit->Act->World->Prop}{E:Prop}
  (hg:o.guard=none) (s x:Operand) (t:TypeId) (hop:o.op=Op.call { callee:=Callee.builtin Builtin.append,args:=#[s,x],argTypes:=#[t,t] })
  (B:Nat) (e:TypeId) (i:TypeInfo) (z:Value) (size bytes:Nat) (h1:P.underlying t=some (.slice e)) (h2:P.info? e=some i) (h3:i.zero=some z) (h4:i.size=size) (h5:i.bytes=bytes) (h6:z.cells.size=size) (h7:0<size)
  (v:Value) (n:Nat) (olds:List Value) (hs:a.eval s=v) (hrow:w.ownsRow B e size v n olds)
  (ad:Addr) (m c:Nat) (news:List Value) (hx:a.eval x=.slice (some ad) m c) (hn:news.length=m*size) (hc:∀j u,news[j]?=some u->w.cell? (ad.add j)=some u) (h1c:∀u∈news,u.oneCell'=true)
  (b1:n+m<=maxLen) (hB:B<=w.heap.size) (b2:(n+m)*bytes<=140737488355328)
  (hK:∀v' w',w'.ownsRow B e size v' (n+m) (olds++news)->w.grownBy w' v.ownBlock->K (a.put o.dst v') w') :
  if Region.wanted o (yielded ops a.tmps)=true then Oper.wp P o a w K Q else E:=by
 have hw:Region.wanted o (yielded ops a.tmps)=true:=by simp[Region.wanted,hg]
 rw[zc3 hw];obtain⟨v',w',p,r1,r2,-⟩:=run_append_own_at (P:=P) w B t o.type e i z size bytes h1 h2 h3 h4 h5 h6 h7 v n olds hrow ad m c news hn hc h1c b1 b2 hB;unfold Oper.wp;simp[execOp,hop,resolve,invoke,builtin,hs,hx,p,Result.andThen];exact hK v' w' r1 r2
theorem zhW(st:List Nd × Int)(c:List Int):yw st c=xI true (xd st.1 c).1 ⟨st.2,(xd st.1 c).2,0⟩:=by
 unfold yw xd;split<;>rfl
section
variable {B s b:Nat} {O:Nat->Prop} {vars:Nat} {room:Int} {ns:List Nd} {w:World}
theorem zes(hA:Xy B w vars room ns){c:List Int}(hl:qk vars c):zG vars (xd ns c).1/\Ext ns (xd ns c).1/\zh (xd ns c).1 (xd ns c).2=true/\cnt (xd ns c).1<=cnt ns+25*vars/\(xd ns c).1.length<=max ns.length (cnt ns+600):=by
 have hv:=hA.v;have hp:=XQ hA.v;have hc:=hA.cnt;have hn:=hA.len;unfold xd;cases ha:qI (zn c) with
 |true=>rw[zc3 rfl];exact⟨hA.good,Ext.refl _,xT _,by show cnt ns<=_;omega,ztq _ _⟩
 |false =>rw[zc2 (by simp)];have j:qk 24 c:=fun x hx=>Yd (by omega) (hl x hx);have o:=zfn (show vars<=24 by omega) hl;have:=XD hA.good (by omega) (by omega) (by omega) (by omega) (ql (zn c)) (by omega) (fun x hx=>YY (hl x ((QG j ha).1 hx)));exact⟨this.good,this.ext,this.has,by have:=this.cnt;omega,by have:=this.tight;omega⟩
theorem zqa(hS:zt B w s b O vars room ns)(hA:Xy B w vars room ns)(x:Int)(hx:zh ns x=true)(c:List Int)(hl:qk vars c)(a:Option Addr)(cap:Nat)(hI:qO w a c)(hm:c.length<=9223372036854775807) :
  zC 56 #[.pointer (some s),x,.slice a c.length cap] w (yD B s b O vars room (yw (ns,x) c) w):=by
 rw[zhW];have hE:=zH (znr hS hA c hl a cap hI hm);obtain⟨h1,h2,h3,h4,h5⟩:=zes hA hl;have hv:=hA.v;have hp:=XQ hA.v;have M:=hA.cnt;have hn:=hA.len;have j:Hid (∀O' W,zt B W s b O' vars room (xd ns c).1->B<=W.heap.size->zC 101 #[.pointer (some s),x,.int .i64 (xd ns c).2] W (yD B s b O' vars room (xI true (xd ns c).1 ⟨x,(xd ns c).2,0⟩) W)):=fun O' W hW hB=>zj1 hW h1 (zbC hA.r hA.l (by omega) (by omega) (by omega) hB) _ _ (h2.has _ hx) h3;have hB:=hA.hB;simp only at j ⊢;generalize xd ns c=r at *;generalize xI true r.1 ⟨x,r.2,0⟩=q at *;clear hS hA hl hI h1 h2 h3 h4 h5 M hn hp hx;go_enter func56,ntmps56;go_wp2_with fail;refine hE.out.mono ?_;rintro e w1 ⟨rfl,O1,y,o⟩;have p:=zH (j.out O1 w1 y (zf1 hB o.size));have K:=zH o;clear y o hE j;go_wp2_with fail;refine p.out.mono ?_;rintro e w2 ⟨rfl,O2,J,u⟩;have HF:Hid (∃O',zt B w2 s b O' vars room q.1/\zP O O' w w2):=⟨O2,J,K.out.trans u⟩;clear J u p;go_wp2;go_ret2;exact⟨rfl,HF.out⟩
theorem zjB{w:World}{B:Nat}{v:Value}{x:Int}(h:w.ownsRow B 3 1 v 1 [.int .i64 x])(hx:I64 x):∃g c,v=.slice (some ⟨g,0,none⟩) 1 c/\Zp w g [x]:=by
 rcases h.2 with ⟨e,e0⟩|⟨g,j,o,rfl,hB,hg,h1,h2,h3,h4⟩
 ·cases e0
 ·refine⟨g,j,rfl,⟨(h.lt g rfl).2,fun i hi=>?_,fun y hy=>by rw[zra.1 hy];exact hx⟩⟩;simp at hi;subst hi;exact h.cellAt 0 (by omega)
theorem zlb{w0:World}(hr4:room<=4000)(hrl:((2*2^vars+25*vars:Nat):Int)<=room+1)(hb0:zB w0 w)(hS:zt w0.heap.size w s b O vars room [])(hv:vars<=10)(K:List (List Int))(hl:xq vars K)(a:Option Addr)(cap:Nat)(hI:xX w0 a K)(hm:K.length<=100000)(hmc:∀c∈K,c.length<=9223372036854775807) :
  zC 21 #[.pointer (some s),.slice a K.length cap] w (yD w0.heap.size s b O vars room (clF K) w):=by
 have k0:=Blk.new w 35 #[.pointer (some s)];have a4:=Go.Proofs.YtoffdbflfikcoaaGreatDoor.below_new w (.cells #[.pointer (some s)] 35);have b0:=fun k h=>(hS.own k h).2;have aZ:=fun k h=>(hS.own k h).1;have b8:=hb0.size;obtain⟨W1,ac⟩:∃W1,w.alloc (.cells #[.pointer (some s)] 35)=W1:=⟨_,rfl⟩;have b7:W1.heap.size=w.heap.size+1:=by rw[<-ac];exact zc1 _ _
 rw[ac] at k0 a4;have a2:=hS.new a4;have ag:=zT hb0 a4;have ak:Hid (zR 52 #[.slice a K.length cap,.func (.func 53) #[] #[.pointer (some w)]] W1 (.bool false)):=by
  have:=zoU 53 #[.pointer (some w)] (fun _=>false) K a cap W1 (by omega) zg0 (hI.below ag) (fun W i a' J hW hi aT aU aW=>zk7 (a2.new hW) (by omega) (K.getD i []) (hl _ (Zk hi)) a' J aW (hmc _ (Zk hi)) w.heap.size ((hW.cell (p:=w) (by show w.heap.size<_;omega)).trans (k0.cell 0)));rw[show (K.any fun _=>false)=false by simp] at this;exact this
 have aj:=zH (zeC a2);have an:Hid (∀W,zB W1 W->zC 55 #[.pointer (some s)] W fun e w'=>e=.returned (.slice none 0 0)/\W=w'):=fun W hW=>zpO (a2.new hW) rfl;have aM:=zH (zbL (show vars<=12 by omega) K hl);have HI:=zH hI;have HL:=zH hl;have aN:=zH hmc;have aK:=zH ag;have aQ:=zH a2;have aL:=zH a4;have K0:=zH k0;have HP:=zH (XQ hv);have aP:=zH hrl;have c0:=k0.cell 0;have aR:=zH ac;clear hI hl hmc ag a2 a4 k0 ac hS hb0 hrl;obtain⟨i3,aX,b1,b2,b3⟩:=info_parts ZO;go_enter func21,ntmps21;go_upto_region 1 with fail;rw[aR.out];go_wp2_with fail;refine aj.out.mono ?_;rintro e w1 ⟨rfl,rfl⟩;clear aj;go_wp2_with fail;refine ak.out.mono ?_;rintro e w2 ⟨rfl,ae⟩;have a0:=zH (an.out w2 ae);have c2:w2.cell? w.heap.size=some (.pointer (some s)):=(ae.cell (p:=w) (by show w.heap.size<_;omega)).trans c0;have a9:=zH ae;clear ae ak an c0;go_wp2_with fail;refine a0.out.mono ?_;rintro e w3 ⟨rfl,rfl⟩;clear a0;go_wp2_with fail;go_loopw [7,23] (fun o iV wr=>∃(i:Nat) (Oi:Nat->Prop),i<=K.length/\iV=.int .i64 i/\o=.int .i64 (clF (K.take i)).2/\zt w0.heap.size wr s b Oi vars room (clF (K.take i)).1/\zP O Oi w2 wr) (fun _ iV _=>K.length-(intOf iV).toNat)
 case atStart=>exact⟨0,O,zf6 _,rfl,rfl,aQ.out.new a9.out,zP.refl _ _⟩
 case round =>
  obtain⟨i,Oi,hi,rfl,rfl,a3,R⟩:=hrel;have b9:W1.heap.size<=w2.heap.size:=a9.out.size;have bb:=R.size;have ah:zB w0 wr:=(zT aK.out a9.out).trans (R.below (by omega) aZ);have aI:¬O w.heap.size:=fun h=>by have:=b0 _ h;omega
  have cR:wr.cell? w.heap.size=some (.pointer (some s)):=(R.cell (a:=w) (by show w.heap.size<_;omega) aI).trans c2;have a8:¬Oi w.heap.size:=R.beside (by omega) aI
  by_cases hlt:i<K.length
  ·have Z:=aM.out i (by omega);have hp:=HP.out;have aF:=Z.cnt;have aY:=Z.len;obtain⟨ad,a',J,rfl,aS,aE,aT,aU,aH⟩:=(HI.out.below ah) i hlt;have aa:qk vars (K.getD i []):=HL.out _ (Zk hlt);have aJ:clF (K.take (i+1))=Jy (clF (K.take i)) (K.getD i []):=by
    rw[zry hlt,zcZ];simp[List.getD_eq_getElem?_getD,List.getElem?_eq_getElem hlt]
   have M:=zcS Z (show vars<=12 by omega) aa;have hA:Xy w0.heap.size wr vars room (clF (K.take i)).1:=⟨hr4,aP.out,Z.good,hv,aF,by omega,by omega⟩;have aw:Hid (zC 56 #[.pointer (some s),.int .i64 (clF (K.take i)).2,.slice a' (K.getD i []).length J] wr (yD w0.heap.size s b Oi vars room (yw (clF (K.take i)) (K.getD i [])) wr)):=zqa a3 hA _ Z.has (K.getD i []) aa a' J aH (aN.out _ (Zk hlt));have a6:(yw (clF (K.take i)) (K.getD i [])).1.length<=90000:=by
    have h1:=M.tight;have h2:=zes hA aa;unfold xd at h2;cases hq:qI (zn (K.getD i [])) with
    |true=>rw[hq,zc3 rfl] at h1;omega
    |false=>rw[hq,zc2 (by simp)] at h1 h2;omega
   have af:Hid (clF (K.take (i+1))=(qw (yw (clF (K.take i)) (K.getD i [])).1 (qs (yw (clF (K.take i)) (K.getD i [])).1 [(yw (clF (K.take i)) (K.getD i [])).2]),(yw (clF (K.take i)) (K.getD i [])).2)):=aJ;have U:=M.good;have a7:=y7 M.has (by omega);generalize yw (clF (K.take i)) (K.getD i [])=r at *;generalize (clF (K.take i)).2=ov at *;generalize K.getD i []=cc at *;have av:=zH R;have b5:(0:Int)<=(i:Int):=by omega
   have b6:(i:Int)<(K.length:Int):=by omega
   obtain⟨ab,ao,b4⟩:=ad;clear Z M hA aa aJ a3 R ah aH aF aY aS;go_wp2_with fail;refine aw.out.mono ?_;rintro e w4 ⟨rfl,O4,aC,a1⟩;have ba:=a1.size;have c4:w4.cell? w.heap.size=some (.pointer (some s)):=(a1.cell (a:=w) (by show w.heap.size<_;omega) a8).trans cR;have a5:zB w4 (w4.drew.alloc (.cells #[r.2] 3)):=((zf0 _ w4).drew).alloc zN _;have c5:w4.drew.cell? w.heap.size=some (.pointer (some s)):=c4;have c6:(w4.drew.alloc (.cells #[r.2] 3)).cell? w.heap.size=some (.pointer (some s)):=(a5.cell (p:=w) (by show w.heap.size<_;omega)).trans c4;have ai:¬O4 w.heap.size:=a1.beside (by omega) a8;have am:Hid (∀W g c,zB w4 W->W.cell? w.heap.size=some (.pointer (some s))->Zp W g [r.2]->zC 57 #[.pointer (some s),.slice (some ⟨g,0,none⟩) 1 c] W fun e w'=>∃n:Int,e=.returned (.int .i64 n)/\∃O',zt w0.heap.size w' s b O' vars room (qw r.1 (qs r.1 [r.2]))/\zP O4 O' W w'/\w'.cell? w.heap.size=some (.pointer (some s))):=fun W g c hW aV hi=>(znH (cp:=c) (aC.new hW) U.ranked a6 (by have:=hW.size;omega) g [r.2] hi (by simp)).mono fun e w' ⟨n,he,O',h1,h2⟩=>⟨n,he,O',h1,h2,(h2.cell (a:=w) (by have:=hW.size;show w.heap.size<_;omega) ai).trans aV⟩;have az:Hid ((w4.drew.alloc (.cells #[r.2] 3)).ownsRow w4 3 1 (.slice none 0 0) 0 []):=zrp _ _ _ _;have aq:Hid (∀(j:Nat) (u:Value),[Value.int .i64 r.2][j]?=some u->(w4.drew.alloc (.cells #[r.2] 3)).cell? ((w4.heap.size:Addr).add j)=some u):=yI w4.drew r.2 3;have ar:=zH (yq r.2);have ax:Hid (0+1<=maxLen):=by show 0+1<=maxLen;unfold maxLen;omega
   have ay:Hid ((0+1)*8<=140737488355328):=by show (0+1)*8<=140737488355328;omega
   have aA:Hid (w4.heap.size<=(w4.drew.alloc (.cells #[r.2] 3)).heap.size):=a5.size;have HX:Hid (∀v7 w7,w7.ownsRow w4 3 1 v7 (0+1) ([]++[.int .i64 r.2])->(w4.drew.alloc (.cells #[r.2] 3)).grownBy w7 (Value.ownBlock (.slice none 0 0))->zB w4 w7/\w7.cell? w.heap.size=some (.pointer (some s))/\∃g c,v7=.slice (some ⟨g,0,none⟩) 1 c/\Zp w7 g [r.2]):=fun v7 w7 h1 h2=>by
    have Y:zB w4 w7:=a5.grown h2 a5.size (fun k e=>by cases e);exact⟨Y,(Y.cell (p:=w) (by show w.heap.size<_;omega)).trans c4,zjB h1 a7⟩
   have au:=zH (av.out.trans a1);clear aC a1 aw a5 c4 cR av U a6 a7;go_upto_region 14 with fail;go_region_held_law (fun X=>X.cell? w.heap.size=some (.pointer (some s))) (first|exact S2|exact S1|exact c5|exact c6)
    (first
     |(refine zm1 rfl _ _ 47 rfl w4.heap.size 3 i3 (.int .i64 0) 1 8 zrq aX b1 b2 b3 rfl (by decide) (.slice none 0 0) 0 [] (by simp[Act.eval]) az.out w4.heap.size 1 1 [.int .i64 r.2] (by simp[Act.eval]) rfl aq.out ar.out ax.out aA.out ay.out ?_;intro v7 w7 V q;obtain⟨Y,S1,g7,c7,rfl,aG⟩:=HX.out _ _ V q)
     | (go_at_call 57;refine (am.out _ _ _ Y S1 aG).mono ?_;rintro e w8 ⟨n8,rfl,O8,aD,aB,S2⟩))
   all_goals
    have y:Hid (zt w0.heap.size w8 s b O8 vars room (clF (K.take (i+1))).1/\zP O O8 w2 w8):=⟨by rw[af.out];exact aD,(au.out.trans (zP.of_below O4 Y)).trans aB⟩;have aO:Hid ((clF (K.take (i+1))).2=r.2):=by show _=_;rw[af.out]
    clear aD aB Y aG V q S1 S2 c5 c6 HX am az aq ar ax ay aA au af;go_wp2;go_roundw
   case rel=>exact⟨i+1,O8,hlt,by go_num,by rw[aO.out],y.out.1,y.out.2⟩
   case measure=>simp[intOf];omega
  ·obtain rfl:i=K.length:=by omega
   rw[zrC] at a3 ⊢;have y:Hid (∃O',zt w0.heap.size wr s b O' vars room (clF K).1/\zP O O' w wr):=⟨Oi,a3,(zP.of_below O (zT aL.out a9.out)).trans R⟩;clear a3 R ah cR;go_wp2;go_ret2;exact⟨rfl,y.out⟩
end
end Bd
