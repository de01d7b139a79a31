import Derived.Test.YthifnefkdjkicaaGreatDoorErAt
import Derived.Deep.RegionHeldLaw
set_option maxHeartbeats 4000000
set_option maxRecDepth 100000
namespace Go.Proofs.YthifnefkdjkicaaGreatDoor.Bd
open Go.RowKit Go.Maps Go.Deep
attribute [local go_sem] Oper.semAt_some
def yT(ns:List Nd)(c:List Int):List Nd × Int:=if qE (zo c)=true then (ns,1) else yh ns (qk (zo c))
section
variable {B s b:Nat} {O:Nat->Prop} {vars:Nat} {room:Int} {ns:List Nd} {w:World}
structure XK(B:Nat)(w:World)(vars:Nat)(room:Int)(ns:List Nd):Prop where
 r:room<=4000
 l:((2*2^vars+25*vars:Nat):Int)<=room+1
 good:zU vars ns
 v:vars<=10
 cnt:cnt ns+1<=2^vars
 len:ns.length<=2*2^vars+600
 hB:B<=w.heap.size
theorem Kh{vars:Nat}(h:vars<=10):2^vars<=1024:=Nat.pow_le_pow_right (by omega) h
theorem JQ{ns:List Nd}{w:World}(hr:room<=4000)(hl:((2*2^vars+25*vars:Nat):Int)<=room+1)(h:cnt ns+2^vars<=2*2^vars+25*vars)(hn:ns.length+2^vars<=90000)(hv:vars<=12)(hB:B<=w.heap.size):QJ B w vars room ns:=⟨hr,Int.le_trans (Int.ofNat_le.2 h) hl,hn,hv,hB⟩
theorem zji(hS:zx B w s b O vars room ns)(c:List Int)(ha:qE (zo c)=true)(a:Option Addr)(cap:Nat)(hI:qe w a c)(hm:c.length<=9223372036854775807) :
  zC 94 #[.pointer (some s),.slice a c.length cap] w (yt B s b O vars room (ns,1) w):=by
 have k0:=((Blk.new w 63 #[.pointer (some s)]).alloc (.cells #[(0:Int)] 3)).alloc (.cells #[.nilIface] 33);have k1:=(Blk.new (w.alloc (.cells #[.pointer (some s)] 63)) 3 #[(0:Int)]).alloc (.cells #[.nilIface] 33);have k2:=Blk.new ((w.alloc (.cells #[.pointer (some s)] 63)).alloc (.cells #[(0:Int)] 3)) 33 #[.nilIface];simp only[zA0] at k1 k2;have q:zB w (((w.alloc (.cells #[.pointer (some s)] 63)).alloc (.cells #[(0:Int)] 3)).alloc (.cells #[.nilIface] 33)):=(((Below.refl _ w).alloc zN _).alloc (by simp only[zA0];omega) _).alloc (by simp only[zA0];omega) _;have j:=zdK c a cap _ (hI.below q) hm;have y:Y8 c=([],true):=by unfold Y8;rw[zA2 ha]
 rw[y] at j;have HF:=zH j;have C:=zH q;have HS:=zH hS;have K1:=zH k1;have K2:=zH k2;clear j q hI hS k0 k1 k2 ha y;go_enter Tryz.func94,Tryz.ntmps94;go_wp2_with fail;refine HF.out.mono ?_;rintro e w1 ⟨⟨a1,c1,rfl,-⟩,o⟩;have u:=zT C.out o;have j1:=K1.out.below o K1.out.lt;have j2:=K2.out.below o K2.out.lt;have e1:=j1.cell 0;have f1:=j1.frozen 0;have e2:(w1.setCell ⟨w.heap.size+1,0,none⟩ (.int .i64 1)).cell? ⟨w.heap.size+1+1,0,none⟩=some .nilIface:=(j2.other (by omega)).cell 0;have f2:(w1.setCell ⟨w.heap.size+1,0,none⟩ (.int .i64 1)).frozen? ⟨w.heap.size+1+1,0,none⟩=false:=(j2.other (by omega)).frozen 0;have r1:((w1.setCell ⟨w.heap.size+1,0,none⟩ (.int .i64 1)).setCell ⟨w.heap.size+1+1,0,none⟩ .nilIface).cell? ⟨w.heap.size+1,0,none⟩=some (.int .i64 1):=((j1.set (i:=0) (v:=.int .i64 1)).other (by omega)).cell 0;have r2:((w1.setCell ⟨w.heap.size+1,0,none⟩ (.int .i64 1)).setCell ⟨w.heap.size+1+1,0,none⟩ .nilIface).cell? ⟨w.heap.size+1+1,0,none⟩=some .nilIface:=((j2.other (by omega)).set (i:=0) (v:=.nilIface)).cell 0;have HB:Hid (zB w ((w1.setCell ⟨w.heap.size+1,0,none⟩ (.int .i64 1)).setCell ⟨w.heap.size+1+1,0,none⟩ .nilIface)):=(u.setCell (p:=⟨w.heap.size+1,0,none⟩) (by show w.heap.size<=w.heap.size+1;omega) _).setCell (p:=⟨w.heap.size+1+1,0,none⟩) (by show w.heap.size<=w.heap.size+1+1;omega) _;clear o u HF j1 j2 K1 K2;go_wp2;refine bodyPost_ret (v:=.tuple #[(1:Int),.nilIface]) (by simp[results,Tryz.f94,go_sem,r1,r2]) rfl ?_;exact⟨rfl,O,HS.out.new HB.out,zV.of_below O HB.out⟩
theorem zol(hS:zx B w s b O vars room ns)(hA:XK B w vars room ns)(c:List Int)(ha:qE (zo c)=false)(hl:ql vars c)(a:Option Addr)(cap:Nat)(hI:qe w a c)(hm:c.length<=9223372036854775807) :
  CallsIn Fence.wide 4 Tryz.prog 94 #[.pointer (some s),.slice a c.length cap] w (yt B s b O vars room (yh ns (qk (zo c))) w):=by
 have k0:=((Blk.new w 63 #[.pointer (some s)]).alloc (.cells #[(0:Int)] 3)).alloc (.cells #[.nilIface] 33);have k1:=(Blk.new (w.alloc (.cells #[.pointer (some s)] 63)) 3 #[(0:Int)]).alloc (.cells #[.nilIface] 33);have k2:=Blk.new ((w.alloc (.cells #[.pointer (some s)] 63)).alloc (.cells #[(0:Int)] 3)) 33 #[.nilIface];simp only[zA0] at k1 k2;have aI:zB w (((w.alloc (.cells #[.pointer (some s)] 63)).alloc (.cells #[(0:Int)] 3)).alloc (.cells #[.nilIface] 33)):=(((Below.refl _ w).alloc zN _).alloc (by simp only[zA0];omega) _).alloc (by simp only[zA0];omega) _;have Z:=zdK c a cap _ (hI.below aI) hm;have b1:Y8 c=(qk (zo c),false):=by unfold Y8;rw[zA1 (by rw[ha];simp)]
 rw[b1] at Z;have a4:ql 24 c:=fun x hx=>QM (by have:=hA.v;omega) (hl x hx);have ap:∀x∈qk (zo c),zW x<vars:=fun x hx=>YZ (hl x ((QL a4 ha).1 hx));have an:∀x∈qk (zo c),yj 24 x=true:=fun x hx=>a4 x ((QL a4 ha).1 hx);have bz:=zfj (show vars<=24 by have:=hA.v;omega) hl;have a0:=hA.r;have a6:=zH hA.l;generalize qk (zo c)=xs at *;have bi:=Kh hA.v;have bh:=Nat.one_le_two_pow (n:=vars);have bt:=hA.cnt;have bu:=hA.len;have b6:Hid (∀ys:List Int,ys.length<=24->(∀x∈ys,zW x<vars)->EiR vars ns ys (yh ns ys)):=fun ys h1 h2=>Kb hA.good (by have:=hA.v;omega) (by omega) (by omega) (by omega) ys (by omega) h2;have HF:=zH (callsIn_wide (n:=3).2 Z);have aM:=zH aI;have HS:=zH hS;have HA:=zH hA;have aD:=zH an;have aE:=zH ap;have K0:=zH k0;have K1:=zH k1;have K2:=zH k2;have V:=fun k h=>(hS.own k h).2;have bw:=hS.slt;have b4:vars<=10:=hA.v;clear Z aI hI hS hA k0 k1 k2 ha b1 hl a4 ap an;refine callsIn_of_wp_marks Tryz.func94 rfl trivial ?_ rfl;simp only[Tryz.ntmps94,List.size_toArray,List.length_cons,List.length_nil,Nat.reduceAdd,Nat.reduceSub,Array.replicate_succ,Array.replicate_zero,List.push_toArray,List.append_toArray,List.nil_append,List.cons_append]
 gi_wp2_with fail
 refine⟨trivial,?_⟩;refine HF.out.mono ?_;rintro e w1 ⟨⟨a1,c1,rfl,ac⟩,ag⟩;have aZ:=zT aM.out ag;have j0:=K0.out.below ag K0.out.lt;have j1:=K1.out.below ag K1.out.lt;have j2:=K2.out.below ag K2.out.lt;have bn:=ag.size;simp only[zA0] at bn;clear HF K0 K1 K2 aM ag;have aP:Hid (CallsIn Fence.wide 3 Tryz.prog 133 #[.slice a1 xs.length c1] (w1.alloc (.cells #[(0:Int)] 3)) fun e w'=>e=.returned (.func (.func 173) #[] #[.pointer (some ⟨w1.heap.size+1,0,none⟩)])/\w'=(w1.alloc (.cells #[(0:Int)] 3)).alloc (.cells #[.slice a1 xs.length c1] 107)):=by
  have:=zlu a1 xs.length c1 (w1.alloc (.cells #[(0:Int)] 3));rw[zA0] at this;exact this
 gi_wp2_with fail
 refine⟨trivial,?_⟩;refine aP.out.mono ?_;rintro e w' ⟨rfl,rfl⟩;clear aP;have l0:=(j0.alloc (.cells #[(0:Int)] 3)).alloc (.cells #[.slice a1 xs.length c1] 107);have l1:=(j1.alloc (.cells #[(0:Int)] 3)).alloc (.cells #[.slice a1 xs.length c1] 107);have l2:=(j2.alloc (.cells #[(0:Int)] 3)).alloc (.cells #[.slice a1 xs.length c1] 107);have l3:=(Blk.new w1 3 #[(0:Int)]).alloc (.cells #[.slice a1 xs.length c1] 107);have l4:=Blk.new (w1.alloc (.cells #[(0:Int)] 3)) 107 #[.slice a1 xs.length c1];simp only[zA0] at l4;have ax:zB w1 ((w1.alloc (.cells #[(0:Int)] 3)).alloc (.cells #[.slice a1 xs.length c1] 107)):=((Below.refl _ w1).alloc zN _).alloc (by simp only[zA0];omega) _;have b3:((w1.alloc (.cells #[(0:Int)] 3)).alloc (.cells #[.slice a1 xs.length c1] 107)).heap.size=w1.heap.size+1+1:=by simp only[zA0]
 have a2:=zI ac ax;have ab:=ac.lt;simp only[zA0] at ab;obtain⟨W0,aY⟩:∃W0,(w1.alloc (.cells #[(0:Int)] 3)).alloc (.cells #[.slice a1 xs.length c1] 107)=W0:=⟨_,rfl⟩;rw[aY] at l0 l1 l2 l3 l4 ax b3 a2 ⊢;clear aY ac;have aJ:zB w W0:=zT aZ ax;have br:=zH b3;have aU:qe W0 a1 xs:=zge a2;have ai:∀k,O k->k<W0.heap.size:=fun k h=>by have:=V k h;omega
 have hQ:∀i,i<xs.length->(yj 24 (xs.getD i 0)=true/\zW (xs.getD i 0)<vars):=fun i hi=>⟨aD.out _ (xR hi),aE.out _ (xR hi)⟩;have aK:=znu (w1.heap.size + 1) (fun k=>k<W0.heap.size/\¬ O k/\k ≠ w1.heap.size) (fun x=>yj 24 x=true/\zW x<vars) xs a1 c1 (by omega) hQ W0 ⟨by omega,fun h=>by have:=V _ h;omega,by omega⟩ (fun k h=>h.1) (l4.cell 0) (fun i hi=>by
  obtain⟨ad,e,h1,h2⟩:=aU i hi;subst e;have bv:=ab ad.block rfl;exact ⟨ad,rfl,⟨h1,fun h=>by have:=V _ h;omega,by omega⟩,h2⟩)
 have h0:EI B s b vars room O w1.heap.size W0 ns (xe ([]:List (PQ (fun x=>yj 24 x=true/\zW x<vars)))) W0:=⟨O,HS.out.new aJ,MM.refl O _ W0,l3.cell 0,l3.frozen 0⟩;have bb:=zH l0;have aQ:=zH l1;have aR:=zH l2;have b5:=zH aJ;have bs:B<=W0.heap.size:=by have:=HA.out.hB;omega
 clear l0 l1 l2 l3 l4 a2 aU ax aZ j0 j1 j2 hQ aJ ab
 gi_wp2_with fail
 refine wpIn_rangeFunc_ownG rfl (by omega) (gf:=173) (lb:=#[.pointer (some ⟨w1.heap.size+1,0,none⟩)]) rfl trivial (enters_of Tryz.func173 (by kernel_rfl) rfl)
  aK QG (zlV (fun k h=>h.1)) zF (fun _=>rfl)
  (fun a3 W=>EI B s b vars room O w1.heap.size W0 ns (xe a3) W) (fun _ _ _=>False)
  (EI.own ai (by omega) (by omega) ns) (fun _ _ _ _ _ h _ _=>h)
  h0 (fun x=>{ tmps:=#[.pointer (some s),.slice a c.length cap,.pointer (some w.heap.size),undef,.pointer (some ⟨w.heap.size+1,0,none⟩),.pointer (some ⟨w.heap.size+1+1,0,none⟩),.slice a1 xs.length c1,.bool false,.pointer (some w1.heap.size),undef,.int .i64 x.1.2,undef,undef,.tuple #[.slice a1 xs.length c1,false],.slice a c.length cap,.tuple #[.slice a1 xs.length c1,false],.slice a1 xs.length c1,.bool false,.bool false,.slice a1 xs.length c1,.func (.func 173) #[] #[.pointer (some ⟨w1.heap.size+1,0,none⟩)],.int .i64 x.1.1,.int .i64 x.1.2,undef,undef,undef,undef,undef,undef,undef,undef,undef,undef,undef,undef,undef,undef,undef,undef,undef,undef,undef,undef,undef,undef,undef],defers:=[] }) ?assign ?body ?done ?stop
 case assign =>
  intro l x W K hK;unfold Ji
  gi_wp2
  exact hK
 case stop=>exact fun _ _ _ _ _ _ h _=>h.elim
 case body =>
  rintro l a3 x W ⟨O1,af,p,hc,hf⟩ hlen;obtain⟨bj,bk⟩:=x.2;have bA:=zoc a3;have hE:=b6.out (xe a3) (by omega) (fun y hy=>(zjK a3 y hy).2);have au:Hid (yh ns (xe (a3++[x]))=QP (yh ns (xe a3)) x.1.2):=by show _=_;rw[zgg];rfl
  have be:=hE.cnt;have bf:=hE.tight;generalize yh ns (xe a3)=st at *;generalize hx:x.1.2=xv at *;have U:¬O1 w1.heap.size:=p.beside (by omega) (fun h=>by have:=V _ h;omega);have ao:¬O1 w.heap.size:=p.beside (by omega) (fun h=>by have:=V _ h;omega);have bd:=p.size;have d0:W.drew.cell? w.heap.size=some (.pointer (some s)):=(p.cell (a:=w.heap.size) (by show w.heap.size<_;omega) (fun h=>by have:=V w.heap.size h;omega) (by show w.heap.size≠_;omega)).trans (bb.out.cell 0);have ah:zB W W.drew:=zF.drew;have aG:=ziD (v:=(zW xv:Int)) (is:=decide (0<xv)) (af.new ah) (JQ a0 a6.out (by omega) (by omega) (by omega) (by show B<=W.heap.size;omega)) (by omega) (by omega);have aW:=zff hE.good (v:=(zW xv:Int)) (decide (0<xv)) (by omega) (by omega) (by omega) (by omega);have aw:=zdQ hE.good bk (by omega) (by omega);have b7:Hid (QP st xv=xC true (Zq st.1 xv).1 ⟨(Zq st.1 xv).2,1,st.2⟩):=rfl;change Calls _ _ _ _ (yt B s b O1 vars room (Zq st.1 xv) W.drew) at aG;change cnt (Zq st.1 xv).1<=_/\(Zq st.1 xv).1.length<=_ at aW;have aX:Hid (∀O2 X,zx B X s b O2 vars room (Zq st.1 xv).1->B<=X.heap.size->zC 135 #[.pointer (some s),.int .i64 (Zq st.1 xv).2,st.2] X (yt B s b O2 vars room (QP st xv) X)):=fun O2 X h1 h2=>zp7 h1 aw.good (JQ a0 a6.out (by omega) (by omega) (by omega) h2) _ _ aw.has (aw.ext.has _ hE.has);generalize QP st xv=r2 at *;generalize Zq st.1 xv=r1 at *;have av:Hid (∀X:World,CallsIn Fence.wide 1 Tryz.prog 92 #[xv] X fun e w'=>e=.returned (.int .i64 (zW xv))/\X=w'):=fun X=>callsIn_wide.2 (zeK xv bj X);have ar:Hid (CallsIn Fence.wide 1 Tryz.prog 134 #[.pointer (some s),(zW xv),.bool (decide (0<xv))] W.drew (yt B s b O1 vars room r1 W.drew)):=callsIn_wide.2 aG;have bg:Tryz.prog.follows .mixedOrders=true:=by kernel_rfl
  have aS:=zH p;have ay:W.drew.cell? w1.heap.size=some (.int .i64 st.2):=hc;have aO:Hid (W.drew.frozen? w1.heap.size=false):=hf;have aN:Hid (∀k,O1 k->W0.heap.size<=k->qi W.drew k):=fun k h1 h2=>p.from ai h1 h2;have a5:Hid (∀k,(k<W0.heap.size/\¬O k/\k≠w1.heap.size)->k<W.heap.size/\¬O1 k):=fun k h=>⟨by omega,p.beside h.1 h.2.1⟩;clear aK h0 aG hE be bf aW aw af p hc hf b7 ah
  gi_wp2_with fail
  refine zfu bg ?nd ?any
  case nd =>intro j o h c hc;have hm:=Array.mem_of_getElem? h;simp at hm;rcases hm with rfl|rfl|rfl|rfl|rfl|rfl|rfl|rfl|rfl|rfl|rfl<;>cases hc
  case any =>
   refine wpAnyIn_take (i:=1) (v:=.int .i64 xv) rfl rfl (by kernel_rfl) (by kernel_rfl) (by kernel_rfl) (fun _ _ _ h=>h) ⟨Or.inl ⟨by rfl,by intro w;go_simp⟩,fun _=>rfl⟩ ?_;refine wpAnyIn_take (i:=3) (v:=.int .i64 xv) rfl rfl (by kernel_rfl) (by kernel_rfl) (by kernel_rfl) (fun _ _ _ h=>h) ⟨Or.inl ⟨by rfl,by intro w;go_simp⟩,fun _=>rfl⟩ ?_;refine wpAnyIn_take (i:=4) (v:=.bool (decide (0<xv))) rfl rfl (by kernel_rfl) (by kernel_rfl) (by kernel_rfl) (fun _ _ _ h=>h) ⟨Or.inl ⟨by rfl,by intro w;go_simp⟩,fun _=>rfl⟩ ?_;refine wpAnyIn_ready (rs:=[0,2]) (by kernel_rfl) (by simp) ?_;refine AllReadyIn.cons rfl (fun K hK=>?_) (AllReadyIn.cons rfl (fun K hK=>?_) AllReadyIn.nil)
   ·skip
    go_simp;refine hK _ _ ?_;clear hK K;refine wpAnyIn_ready (rs:=[2]) (by kernel_rfl) (by simp) ?_;refine AllReadyIn.cons rfl (fun K hK=>?_) AllReadyIn.nil;go_simp
    gi_wp2_with (refine⟨trivial,?_⟩;gi_at_call 92;refine(av.out _).mono ?_;rintro e wT ⟨rfl,rfl⟩)
    refine wpAnyIn_ready (rs:=[5]) (by kernel_rfl) (by simp) ?_;refine AllReadyIn.cons rfl (fun K hK=>?_) AllReadyIn.nil;go_simp
    gi_wp2_with (refine⟨trivial,?_⟩;gi_at_call 134;refine(ar.out).mono ?_;rintro e wT ⟨rfl,O2,ak,q⟩)
    refine wpAnyIn_take (i:=6) (v:=.tuple #[r1.2,.nilIface]) rfl rfl (by kernel_rfl) (by kernel_rfl) (by kernel_rfl) (fun _ _ _ h=>h) ⟨Or.inl ⟨by rfl,by intro w;go_simp⟩,fun _=>rfl⟩ ?_;refine wpAnyIn_take (i:=7) (v:=.int .i64 r1.2) rfl rfl (by kernel_rfl) (by kernel_rfl) (by kernel_rfl) (fun _ _ _ h=>h) ⟨Or.inl ⟨by rfl,by intro w;go_simp⟩,fun _=>rfl⟩ ?_;refine wpAnyIn_take (i:=9) (v:=.int .i64 r1.2) rfl rfl (by kernel_rfl) (by kernel_rfl) (by kernel_rfl) (fun _ _ _ h=>h) ⟨Or.inl ⟨by rfl,by intro w;go_simp⟩,fun _=>rfl⟩ ?_;refine wpAnyIn_take (i:=8) (v:=.nilIface) rfl rfl (by kernel_rfl) (by kernel_rfl) (by kernel_rfl) (fun _ _ _ h=>h) ⟨Or.inl ⟨by rfl,by intro w;go_simp⟩,fun _=>rfl⟩ ?_;refine wpAnyIn_take (i:=10) (v:=.nilIface) rfl rfl (by kernel_rfl) (by kernel_rfl) (by kernel_rfl) (fun _ _ _ h=>h) ⟨Or.inl ⟨by rfl,by intro w;go_simp⟩,fun _=>rfl⟩ ?_;refine wpAnyIn_done (by kernel_rfl) ?_ _;have bl:W.heap.size<=wT.heap.size:=q.size;have ah:zB W W.drew:=zF.drew;have J:w1.heap.size<W.drew.heap.size:=by show w1.heap.size<W.heap.size;omega
    have ae:w.heap.size<W.drew.heap.size:=by show w.heap.size<W.heap.size;omega
    have d2:wT.cell? w.heap.size=some (.pointer (some s)):=(q.cell (a:=w.heap.size) ae ao).trans d0;have c2:wT.cell? w1.heap.size=some (.int .i64 st.2):=(q.cell (a:=w1.heap.size) J U).trans ay;have M:¬O2 w1.heap.size:=q.beside J U;have aj:=zH (CallsIn.inRound l (callsIn_wide (n:=1).2 (aX.out O2 wT ak (by omega))));have aL:MM O O1 w1.heap.size W0 W.drew:=aS.out.trans (MM.of_below ah);have aq:=aL.trans (MM.of_moves (dm:=w1.heap.size) q);have Y:=zH q;have u:=zH aq;have f2:wT.frozen? w1.heap.size=false:=(Xx (a:=w1.heap.size) (q.kept.block w1.heap.size J U)).trans aO.out;have aA:=zH f2;clear q aq f2 ak d0 ay av ar
    gi_wp2_with fail
    refine⟨trivial,?_⟩;refine aj.out.mono ?_;rintro e w3 ⟨rfl,O3,am,C⟩;have R:w1.heap.size<wT.heap.size:=by omega
    have c3:w3.cell? w1.heap.size=some (.int .i64 st.2):=(C.cell (a:=w1.heap.size) R M).trans c2;have f3:w3.frozen? w1.heap.size=false:=(Xx (a:=w1.heap.size) (C.kept.block w1.heap.size R M)).trans aA.out;have a8:¬O3 w1.heap.size:=C.beside R M;have aB:Hid (KeepsFrom W0.heap.size W (w3.setCell w1.heap.size (.int .i64 r2.2))):=((((KeepsOthers.drew W).from _).trans (Kq Y.out aN.out)).trans (Kq C (fun k h1 h2=>u.out.from ai h1 h2))).trans ((KeepsOthers.setCell _ _ _).from _);have aC:Hid (KpR (fun k=>k<W0.heap.size/\¬O k/\k≠w1.heap.size) W (w3.setCell w1.heap.size (.int .i64 r2.2))):=QG (QG (QG (zfD W) (K5 Y.out (fun k h=>a5.out k h))) (K5 C (fun k h=>⟨Nat.lt_of_lt_of_le (a5.out k h).1 Y.out.size,Y.out.beside (a5.out k h).1 (a5.out k h).2⟩))) (zfU (fun k h=>h.2.2) _ _);have az:Hid (EI B s b vars room O w1.heap.size W0 ns (xe (a3++[x])) (w3.setCell w1.heap.size (.int .i64 r2.2))):=by
     refine⟨O3,?_,(u.out.trans (MM.of_moves (dm:=w1.heap.size) C)).set _,?_,?_⟩
     ·rw[au.out];exact am.kept (zc.setCell (S:=fun j=>j=w1.heap.size) w3 w1.heap.size _ rfl) (fun k hk e=>a8 (e▸hk)) (fun e=>by omega)
     ·rw[au.out];exact World.cell?_setCell_same _ _ _ c3
     ·rw[World.frozen?_setCell];exact f3
    clear am C aj Y u c2 d2
    gi_wp2
    exact⟨aB.out,aC.out,az.out⟩
   ·skip
    go_simp
    gi_wp2_with (refine⟨trivial,?_⟩;gi_at_call 92;refine(av.out _).mono ?_;rintro e wT ⟨rfl,rfl⟩)
    refine wpAnyIn_ready (rs:=[0]) (by kernel_rfl) (by simp) ?_;refine AllReadyIn.cons rfl (fun K hK=>?_) AllReadyIn.nil;go_simp;refine hK _ _ ?_;clear hK K;refine wpAnyIn_ready (rs:=[5]) (by kernel_rfl) (by simp) ?_;refine AllReadyIn.cons rfl (fun K hK=>?_) AllReadyIn.nil;go_simp
    gi_wp2_with (refine⟨trivial,?_⟩;gi_at_call 134;refine(ar.out).mono ?_;rintro e wT ⟨rfl,O2,ak,q⟩)
    refine wpAnyIn_take (i:=6) (v:=.tuple #[r1.2,.nilIface]) rfl rfl (by kernel_rfl) (by kernel_rfl) (by kernel_rfl) (fun _ _ _ h=>h) ⟨Or.inl ⟨by rfl,by intro w;go_simp⟩,fun _=>rfl⟩ ?_;refine wpAnyIn_take (i:=7) (v:=.int .i64 r1.2) rfl rfl (by kernel_rfl) (by kernel_rfl) (by kernel_rfl) (fun _ _ _ h=>h) ⟨Or.inl ⟨by rfl,by intro w;go_simp⟩,fun _=>rfl⟩ ?_;refine wpAnyIn_take (i:=9) (v:=.int .i64 r1.2) rfl rfl (by kernel_rfl) (by kernel_rfl) (by kernel_rfl) (fun _ _ _ h=>h) ⟨Or.inl ⟨by rfl,by intro w;go_simp⟩,fun _=>rfl⟩ ?_;refine wpAnyIn_take (i:=8) (v:=.nilIface) rfl rfl (by kernel_rfl) (by kernel_rfl) (by kernel_rfl) (fun _ _ _ h=>h) ⟨Or.inl ⟨by rfl,by intro w;go_simp⟩,fun _=>rfl⟩ ?_;refine wpAnyIn_take (i:=10) (v:=.nilIface) rfl rfl (by kernel_rfl) (by kernel_rfl) (by kernel_rfl) (fun _ _ _ h=>h) ⟨Or.inl ⟨by rfl,by intro w;go_simp⟩,fun _=>rfl⟩ ?_;refine wpAnyIn_done (by kernel_rfl) ?_ _;have bl:W.heap.size<=wT.heap.size:=q.size;have ah:zB W W.drew:=zF.drew;have J:w1.heap.size<W.drew.heap.size:=by show w1.heap.size<W.heap.size;omega
    have ae:w.heap.size<W.drew.heap.size:=by show w.heap.size<W.heap.size;omega
    have d2:wT.cell? w.heap.size=some (.pointer (some s)):=(q.cell (a:=w.heap.size) ae ao).trans d0;have c2:wT.cell? w1.heap.size=some (.int .i64 st.2):=(q.cell (a:=w1.heap.size) J U).trans ay;have M:¬O2 w1.heap.size:=q.beside J U;have aj:=zH (CallsIn.inRound l (callsIn_wide (n:=1).2 (aX.out O2 wT ak (by omega))));have aL:MM O O1 w1.heap.size W0 W.drew:=aS.out.trans (MM.of_below ah);have aq:=aL.trans (MM.of_moves (dm:=w1.heap.size) q);have Y:=zH q;have u:=zH aq;have f2:wT.frozen? w1.heap.size=false:=(Xx (a:=w1.heap.size) (q.kept.block w1.heap.size J U)).trans aO.out;have aA:=zH f2;clear q aq f2 ak d0 ay av ar
    gi_wp2_with fail
    refine⟨trivial,?_⟩;refine aj.out.mono ?_;rintro e w3 ⟨rfl,O3,am,C⟩;have R:w1.heap.size<wT.heap.size:=by omega
    have c3:w3.cell? w1.heap.size=some (.int .i64 st.2):=(C.cell (a:=w1.heap.size) R M).trans c2;have f3:w3.frozen? w1.heap.size=false:=(Xx (a:=w1.heap.size) (C.kept.block w1.heap.size R M)).trans aA.out;have a8:¬O3 w1.heap.size:=C.beside R M;have aB:Hid (KeepsFrom W0.heap.size W (w3.setCell w1.heap.size (.int .i64 r2.2))):=((((KeepsOthers.drew W).from _).trans (Kq Y.out aN.out)).trans (Kq C (fun k h1 h2=>u.out.from ai h1 h2))).trans ((KeepsOthers.setCell _ _ _).from _);have aC:Hid (KpR (fun k=>k<W0.heap.size/\¬O k/\k≠w1.heap.size) W (w3.setCell w1.heap.size (.int .i64 r2.2))):=QG (QG (QG (zfD W) (K5 Y.out (fun k h=>a5.out k h))) (K5 C (fun k h=>⟨Nat.lt_of_lt_of_le (a5.out k h).1 Y.out.size,Y.out.beside (a5.out k h).1 (a5.out k h).2⟩))) (zfU (fun k h=>h.2.2) _ _);have az:Hid (EI B s b vars room O w1.heap.size W0 ns (xe (a3++[x])) (w3.setCell w1.heap.size (.int .i64 r2.2))):=by
     refine⟨O3,?_,(u.out.trans (MM.of_moves (dm:=w1.heap.size) C)).set _,?_,?_⟩
     ·rw[au.out];exact am.kept (zc.setCell (S:=fun j=>j=w1.heap.size) w3 w1.heap.size _ rfl) (fun k hk e=>a8 (e▸hk)) (fun e=>by omega)
     ·rw[au.out];exact World.cell?_setCell_same _ _ _ c3
     ·rw[World.frozen?_setCell];exact f3
    clear am C aj Y u c2 d2
    gi_wp2
    exact⟨aB.out,aC.out,az.out⟩
 case done =>
  rintro D ys WF hD bo ⟨O1,af,p,hc,hf⟩ hK;rw[zpg bo] at af hc;have aV:=Xq hK rfl;have bm:=p.size;have g1:WF.cell? ⟨w.heap.size+1,0,none⟩=some (.int .i64 0):=(p.cell (a:=⟨w.heap.size+1,0,none⟩) (by show w.heap.size+1<_;omega) (fun h=>by have:=V (w.heap.size+1) h;omega) (by show w.heap.size+1≠_;omega)).trans (aQ.out.cell 0);have g2:WF.cell? ⟨w.heap.size+1+1,0,none⟩=some .nilIface:=(p.cell (a:=⟨w.heap.size+1+1,0,none⟩) (by show w.heap.size+1+1<_;omega) (fun h=>by have:=V (w.heap.size+1+1) h;omega) (by show w.heap.size+1+1≠_;omega)).trans (aR.out.cell 0);have e1:WF.frozen? ⟨w.heap.size+1,0,none⟩=false:=(p.frozen (a:=⟨w.heap.size+1,0,none⟩) (by show w.heap.size+1<_;omega) (fun h=>by have:=V (w.heap.size+1) h;omega) (by show w.heap.size+1≠_;omega)).trans (aQ.out.frozen 0);have e2:(WF.setCell ⟨w.heap.size+1,0,none⟩ (.int .i64 (yh ns xs).2)).frozen? ⟨w.heap.size+1+1,0,none⟩=false:=by
   rw[World.frozen?_setCell];exact(p.frozen (a:=⟨w.heap.size+1+1,0,none⟩) (by show w.heap.size+1+1<_;omega) (fun h=>by have:=V (w.heap.size+1+1) h;omega) (by show w.heap.size+1+1≠_;omega)).trans (aR.out.frozen 0)
  have g3:(WF.setCell ⟨w.heap.size+1,0,none⟩ (.int .i64 (yh ns xs).2)).cell? ⟨w.heap.size+1+1,0,none⟩=some .nilIface:=(World.cell?_setCell_other _ _ _ _ (by intro h;injection h;omega)).trans g2;obtain⟨W9,a7⟩:∃W9,(WF.setCell ⟨w.heap.size+1,0,none⟩ (.int .i64 (yh ns xs).2)).setCell ⟨w.heap.size+1+1,0,none⟩ .nilIface=W9:=⟨_,rfl⟩;have r1:W9.cell? ⟨w.heap.size+1,0,none⟩=some (.int .i64 (yh ns xs).2):=by rw[<-a7];exact(World.cell?_setCell_other _ _ _ _ (by intro h;injection h;omega)).trans (World.cell?_setCell_same _ _ _ g1)
  have r2:W9.cell? ⟨w.heap.size+1+1,0,none⟩=some .nilIface:=by rw[<-a7];exact World.cell?_setCell_same _ _ _ g3
  have aF:W9.heap[D]?=some (.deferred (some [])):=by rw[<-a7];exact((KeepsOthers.setCell _ _ _).trans (KeepsOthers.setCell _ _ _)).same D _ hK rfl
  have a9:zc (fun k=>k=w.heap.size+1\/k=w.heap.size+1+1) WF W9:=by rw[<-a7];exact(zc.setCell WF ⟨w.heap.size+1,0,none⟩ _ (.inl rfl)).andThen (zc.setCell _ ⟨w.heap.size+1+1,0,none⟩ _ (.inr rfl:(fun k=>k=w.heap.size+1\/k=w.heap.size+1+1) (w.heap.size+1+1))) (fun i h _=>h)
  have b0:∀k,qi WF k->qi W9 k:=fun k h=>by rw[<-a7];exact zaR (zaR h _ _) _ _
  have b2:¬qi W9 D:=Xq aF rfl;have bp:(W9.putObj D (.deferred none)).cell? ⟨w.heap.size+1,0,none⟩=some (.int .i64 (yh ns xs).2):=(JR (a:=⟨w.heap.size+1,0,none⟩) (World.putObj_heap_other (by show w.heap.size+1≠D;omega))).trans r1;have bq:(W9.putObj D (.deferred none)).cell? ⟨w.heap.size+1+1,0,none⟩=some .nilIface:=(JR (a:=⟨w.heap.size+1+1,0,none⟩) (World.putObj_heap_other (by show w.heap.size+1+1≠D;omega))).trans r2;have aa:zc (fun k=>k=D) W9 (W9.putObj D (.deferred none)):=zc.of_grown (grownBy_putObj' W9 D _) (fun i e=>by cases e;rfl);have aH:∀k,k<W0.heap.size->¬O k->¬O1 k:=fun k h1 h2=>p.beside h1 h2;have aT:¬O1 D:=p.out ai hD aV;have b9:Hid (zx B (W9.putObj D (.deferred none)) s b O1 vars room (yh ns xs).1):=(af.kept a9 (fun k hk e=>by
   rcases e with rfl|rfl
   ·exact aH _ (by omega) (fun h=>by have:=V _ h;omega) hk
   ·exact aH _ (by omega) (fun h=>by have:=V _ h;omega) hk) (fun e=>by omega)).kept aa (fun k hk e=>aT (e ▸ hk)) (fun e=>by omega)
  have b8:Hid (zV O O1 w (W9.putObj D (.deferred none))):=ziH b5.out (by omega) p ((a9.mono (T:=fun k=>w.heap.size<=k) (fun i h=>by show w.heap.size<=i;omega)).andThen aa (fun i e _=>by show w.heap.size<=i;omega)) (fun k h=>zmp (b0 k h) b2 _);have ba:=zH aF;have bc:=zH a7;clear af p hK aV aF a9 aa b0 b2 aH aT aK h0 hf a7
  gi_wp2_with fail
  rw[bc.out];refine⟨by simp,.inl ⟨_,_,rfl,run_takeDeferred ba.out,?_⟩⟩;refine⟨.tuple #[.int .i64 (yh ns xs).2,.nilIface],?_,?_⟩
  ·simp[results,Tryz.f94,go_sem,bp,bq]
  ·exact⟨rfl,O1,b9.out,b8.out⟩
theorem zmF(hS:zx B w s b O vars room ns)(hA:XK B w vars room ns)(c:List Int)(hl:ql vars c)(a:Option Addr)(cap:Nat)(hI:qe w a c)(hm:c.length<=9223372036854775807) :
  zC 94 #[.pointer (some s),.slice a c.length cap] w (yt B s b O vars room (yT ns c) w):=by
 unfold yT;cases ha:qE (zo c) with
 |true=>rw[zA2 rfl];exact zji hS c ha a cap hI hm
 |false=>rw[zA1 (by simp)];exact(callsIn_wide (n:=4)).1 (zol hS hA c ha hl a cap hI hm)
end
end Go.Proofs.YthifnefkdjkicaaGreatDoor.Bd
namespace Go.Proofs.YthifnefkdjkicaaGreatDoor.Bd
open Go.RowKit Go.Maps Go.Deep
theorem zmS{P:Program}{ops:Array Oper}{o:Oper}{a:Act}{w:World}{K:Act->World->Prop}{Q:Exit->Act->World->Prop}{E:Prop}
  (hg:o.guard=none) (s x:Operand) (t:TypeId) (hop:o.op=Op.call { callee:=Callee.builtin Builtin.append,args:=#[s,x],argTypes:=#[t,t] })
  (B:Nat) (e:TypeId) (i:TypeInfo) (z:Value) (size bytes:Nat) (h1:P.underlying t=some (.slice e)) (h2:P.info? e=some i) (h3:i.zero=some z) (h4:i.size=size) (h5:i.bytes=bytes) (h6:z.cells.size=size) (h7:0<size)
  (v:Value) (n:Nat) (olds:List Value) (hs:a.eval s=v) (hrow:w.ownsRow B e size v n olds)
  (ad:Addr) (m c:Nat) (news:List Value) (hx:a.eval x=.slice (some ad) m c) (hn:news.length=m*size) (hc:∀j u,news[j]?=some u->w.cell? (ad.add j)=some u) (h1c:∀u∈news,u.oneCell'=true)
  (b1:n+m<=maxLen) (hB:B<=w.heap.size) (b2:(n+m)*bytes<=140737488355328)
  (hK:∀v' w',w'.ownsRow B e size v' (n+m) (olds++news)->w.grownBy w' v.ownBlock->K (a.put o.dst v') w') :
  if Region.wanted o (yielded ops a.tmps)=true then Oper.wp P o a w K Q else E:=by
 have hw:Region.wanted o (yielded ops a.tmps)=true:=by simp[Region.wanted,hg]
 rw[zA2 hw];obtain⟨v',w',p,r1,r2,-⟩:=run_append_own_at (P:=P) w B t o.type e i z size bytes h1 h2 h3 h4 h5 h6 h7 v n olds hrow ad m c news hn hc h1c b1 b2 hB;unfold Oper.wp;simp[execOp,hop,resolve,invoke,builtin,hs,hx,p,Result.andThen];exact hK v' w' r1 r2
theorem zhz(st:List Nd × Int)(c:List Int):yl st c=xC true (yT st.1 c).1 ⟨st.2,(yT st.1 c).2,0⟩:=by
 unfold yl yT;split<;>rfl
section
variable {B s b:Nat} {O:Nat->Prop} {vars:Nat} {room:Int} {ns:List Nd} {w:World}
theorem zcp(hA:XK B w vars room ns){c:List Int}(hl:ql vars c):zU vars (yT ns c).1/\Ext ns (yT ns c).1/\zj (yT ns c).1 (yT ns c).2=true/\cnt (yT ns c).1<=cnt ns+25*vars/\(yT ns c).1.length<=max ns.length (cnt ns+600):=by
 have hv:=hA.v;have hp:=Kh hA.v;have hc:=hA.cnt;have hn:=hA.len;unfold yT;cases ha:qE (zo c) with
 |true=>rw[zA2 rfl];exact⟨hA.good,Ext.refl _,xT _,by show cnt ns<=_;omega,Nat.le_max_left _ _⟩
 |false =>rw[zA1 (by simp)];have j:ql 24 c:=fun x hx=>QM (by omega) (hl x hx);have o:=zfj (show vars<=24 by omega) hl;have:=Kb hA.good (by omega) (by omega) (by omega) (by omega) (qk (zo c)) (by omega) (fun x hx=>YZ (hl x ((QL j ha).1 hx)));exact⟨this.good,this.ext,this.has,by have:=this.cnt;omega,by have:=this.tight;omega⟩
theorem zkL(hS:zx B w s b O vars room ns)(hA:XK B w vars room ns)(x:Int)(hx:zj ns x=true)(c:List Int)(hl:ql vars c)(a:Option Addr)(cap:Nat)(hI:qe w a c)(hm:c.length<=9223372036854775807) :
  zC 60 #[.pointer (some s),x,.slice a c.length cap] w (yt B s b O vars room (yl (ns,x) c) w):=by
 rw[zhz];have hE:=zH (zmF hS hA c hl a cap hI hm);obtain⟨h1,h2,h3,h4,h5⟩:=zcp hA hl;have hv:=hA.v;have hp:=Kh hA.v;have K:=hA.cnt;have hn:=hA.len;have j:Hid (∀O' W,zx B W s b O' vars room (yT ns c).1->B<=W.heap.size->zC 95 #[.pointer (some s),x,.int .i64 (yT ns c).2] W (yt B s b O' vars room (xC true (yT ns c).1 ⟨x,(yT ns c).2,0⟩) W)):=fun O' W hW hB=>zp5 hW h1 (JQ hA.r hA.l (by omega) (by omega) (by omega) hB) _ _ (h2.has _ hx) h3;have hB:=hA.hB;simp only at j ⊢;generalize yT ns c=r at *;generalize xC true r.1 ⟨x,r.2,0⟩=q at *;clear hS hA hl hI h1 h2 h3 h4 h5 K hn hp hx;go_enter Tryz.func60,Tryz.ntmps60;go_wp2_with fail;refine hE.out.mono ?_;rintro e w1 ⟨rfl,O1,y,o⟩;have p:=zH (j.out O1 w1 y (Nat.le_trans hB o.size));have J:=zH o;clear y o hE j;go_wp2_with fail;refine p.out.mono ?_;rintro e w2 ⟨rfl,O2,C,u⟩;have HF:Hid (∃O',zx B w2 s b O' vars room q.1/\zV O O' w w2):=⟨O2,C,J.out.trans u⟩;clear C u p;go_wp2;go_ret2;exact⟨rfl,HF.out⟩
theorem zjZ{w:World}{B:Nat}{v:Value}{x:Int}(h:w.ownsRow B 3 1 v 1 [.int .i64 x])(hx:I64 x):∃g c,v=.slice (some ⟨g,0,none⟩) 1 c/\ZC w g [x]:=by
 rcases h.2 with ⟨e,e0⟩|⟨g,j,o,rfl,hB,hg,h1,h2,h3,h4⟩
 ·cases e0
 ·refine⟨g,j,rfl,⟨(h.lt g rfl).2,fun i hi=>?_,fun y hy=>by rw[List.mem_singleton.1 hy];exact hx⟩⟩;simp at hi;subst hi;exact h.cellAt 0 (by omega)
theorem zoB{w0:World}(hr4:room<=4000)(hrl:((2*2^vars+25*vars:Nat):Int)<=room+1)(hb0:zB w0 w)(hS:zx w0.heap.size w s b O vars room [])(hv:vars<=10)(K:List (List Int))(hl:yP vars K)(a:Option Addr)(cap:Nat)(hI:xJ w0 a K)(hm:K.length<=100000)(hmc:∀c∈K,c.length<=9223372036854775807) :
  zC 23 #[.pointer (some s),.slice a K.length cap] w (yt w0.heap.size s b O vars room (clF K) w):=by
 have k0:=Blk.new w 63 #[.pointer (some s)];have a3:=Go.Proofs.YthifnefkdjkicaaGreatDoor.below_new w (.cells #[.pointer (some s)] 63);have aY:=fun k h=>(hS.own k h).2;have aX:=fun k h=>(hS.own k h).1;have b6:=hb0.size;obtain⟨W1,aa⟩:∃W1,w.alloc (.cells #[.pointer (some s)] 63)=W1:=⟨_,rfl⟩;have b5:W1.heap.size=w.heap.size+1:=by rw[<-aa];exact zA0 _ _
 rw[aa] at k0 a3;have a1:=hS.new a3;have af:=zT hb0 a3;have aj:Hid (zR 55 #[.slice a K.length cap,.func (.func 56) #[] #[.pointer (some w.heap.size)]] W1 (.bool false)):=by
  have:=zjw 56 #[.pointer (some w.heap.size)] (fun _=>false) K a cap W1 (by omega) zkF (hI.below af) (fun W i a' C hW hi aR aS aU=>zmy (a1.new hW) (by omega) (K.getD i []) (hl _ (xR hi)) a' C aU (hmc _ (xR hi)) w.heap.size ((hW.cell (p:=w.heap.size) (by show w.heap.size<_;omega)).trans (k0.cell 0)));rw[show (K.any fun _=>false)=false by simp] at this;exact this
 have ai:=zH (zdH a1);have am:Hid (∀W,zB W1 W->zC 59 #[.pointer (some s)] W fun e w'=>e=.returned (.slice none 0 0)/\W=w'):=fun W hW=>zmJ (a1.new hW) rfl;have aK:=zH (za9 (show vars<=12 by omega) K hl);have HI:=zH hI;have HL:=zH hl;have aL:=zH hmc;have aI:=zH af;have aO:=zH a1;have aJ:=zH a3;have K0:=zH k0;have HP:=zH (Kh hv);have aN:=zH hrl;have c0:=k0.cell 0;have aP:=zH aa;clear hI hl hmc af a1 a3 k0 aa hS hb0 hrl;obtain⟨i3,aV,aZ,b0,b1⟩:=info_parts Z0;go_enter Tryz.func23,Tryz.ntmps23;go_upto_region 1 with fail;rw[aP.out];go_wp2_with fail;refine ai.out.mono ?_;rintro e w1 ⟨rfl,rfl⟩;clear ai;go_wp2_with fail;refine aj.out.mono ?_;rintro e w2 ⟨rfl,ac⟩;have Z:=zH (am.out w2 ac);have c2:w2.cell? w.heap.size=some (.pointer (some s)):=(ac.cell (p:=w.heap.size) (by show w.heap.size<_;omega)).trans c0;have a8:=zH ac;clear ac aj am c0;go_wp2_with fail;refine Z.out.mono ?_;rintro e w3 ⟨rfl,rfl⟩;clear Z;go_wp2_with fail;go_loopw [7,23] (fun o iV wr=>∃(i:Nat) (Oi:Nat->Prop),i<=K.length/\iV=.int .i64 i/\o=.int .i64 (clF (K.take i)).2/\zx w0.heap.size wr s b Oi vars room (clF (K.take i)).1/\zV O Oi w2 wr) (fun _ iV _=>K.length-(intOf iV).toNat)
 case atStart=>exact⟨0,O,Nat.zero_le _,rfl,rfl,aO.out.new a8.out,zV.refl _ _⟩
 case round =>
  obtain⟨i,Oi,hi,rfl,rfl,a2,M⟩:=hrel;have b7:W1.heap.size<=w2.heap.size:=a8.out.size;have b9:=M.size;have ag:zB w0 wr:=(zT aI.out a8.out).trans (M.below (by omega) aX);have aG:¬O w.heap.size:=fun h=>by have:=aY _ h;omega
  have cR:wr.cell? w.heap.size=some (.pointer (some s)):=(M.cell (a:=w.heap.size) (by show w.heap.size<_;omega) aG).trans c2;have a7:¬Oi w.heap.size:=M.beside (by omega) aG
  by_cases hlt:i<K.length
  ·have Y:=aK.out i (by omega);have hp:=HP.out;have aD:=Y.cnt;have aW:=Y.len;obtain⟨ad,a',C,rfl,aQ,aC,aR,aS,aF⟩:=(HI.out.below ag) i hlt;have a9:ql vars (K.getD i []):=HL.out _ (xR hlt);have aH:clF (K.take (i+1))=Jf (clF (K.take i)) (K.getD i []):=by
    rw[List.take_succ_eq_append_getElem hlt,zcn];simp[List.getD_eq_getElem?_getD,List.getElem?_eq_getElem hlt]
   have J:=zdR Y (show vars<=12 by omega) a9;have hA:XK w0.heap.size wr vars room (clF (K.take i)).1:=⟨hr4,aN.out,Y.good,hv,aD,by omega,by omega⟩;have au:Hid (zC 60 #[.pointer (some s),.int .i64 (clF (K.take i)).2,.slice a' (K.getD i []).length C] wr (yt w0.heap.size s b Oi vars room (yl (clF (K.take i)) (K.getD i [])) wr)):=zkL a2 hA _ Y.has (K.getD i []) a9 a' C aF (aL.out _ (xR hlt));have a5:(yl (clF (K.take i)) (K.getD i [])).1.length<=90000:=by
    have h1:=J.tight;have h2:=zcp hA a9;unfold yT at h2;cases hq:qE (zo (K.getD i [])) with
    |true=>rw[hq,zA2 rfl] at h1;omega
    |false=>rw[hq,zA1 (by simp)] at h1 h2;omega
   have ae:Hid (clF (K.take (i+1))=(qy (yl (clF (K.take i)) (K.getD i [])).1 (qt (yl (clF (K.take i)) (K.getD i [])).1 [(yl (clF (K.take i)) (K.getD i [])).2]),(yl (clF (K.take i)) (K.getD i [])).2)):=aH;have R:=J.good;have a6:=xX J.has (by omega);generalize yl (clF (K.take i)) (K.getD i [])=r at *;generalize (clF (K.take i)).2=ov at *;generalize K.getD i []=cc at *;have ar:=zH M;have b3:(0:Int)<=(i:Int):=by omega
   have b4:(i:Int)<(K.length:Int):=by omega
   obtain⟨ab,ao,b2⟩:=ad;clear Y J hA a9 aH a2 M ag aF aD aW aQ;go_wp2_with fail;refine au.out.mono ?_;rintro e w4 ⟨rfl,O4,aA,a0⟩;have b8:=a0.size;have c4:w4.cell? w.heap.size=some (.pointer (some s)):=(a0.cell (a:=w.heap.size) (by show w.heap.size<_;omega) a7).trans cR;have a4:zB w4 (w4.drew.alloc (.cells #[r.2] 3)):=((Below.refl _ w4).drew).alloc zN _;have c5:w4.drew.cell? w.heap.size=some (.pointer (some s)):=c4;have c6:(w4.drew.alloc (.cells #[r.2] 3)).cell? w.heap.size=some (.pointer (some s)):=(a4.cell (p:=w.heap.size) (by show w.heap.size<_;omega)).trans c4;have ah:¬O4 w.heap.size:=a0.beside (by omega) a7;have ak:Hid (∀W g c,zB w4 W->W.cell? w.heap.size=some (.pointer (some s))->ZC W g [r.2]->zC 61 #[.pointer (some s),.slice (some ⟨g,0,none⟩) 1 c] W fun e w'=>∃n:Int,e=.returned (.int .i64 n)/\∃O',zx w0.heap.size w' s b O' vars room (qy r.1 (qt r.1 [r.2]))/\zV O4 O' W w'/\w'.cell? w.heap.size=some (.pointer (some s))):=fun W g c hW aT hi=>(zjS (cp:=c) (aA.new hW) R.ranked a5 (by have:=hW.size;omega) g [r.2] hi (by simp)).mono fun e w' ⟨n,he,O',h1,h2⟩=>⟨n,he,O',h1,h2,(h2.cell (a:=w.heap.size) (by have:=hW.size;show w.heap.size<_;omega) ah).trans aT⟩;have ax:Hid ((w4.drew.alloc (.cells #[r.2] 3)).ownsRow w4.heap.size 3 1 (.slice none 0 0) 0 []):=World.ownsRow_nil _ _ _ _;have an:Hid (∀(j:Nat) (u:Value),[Value.int .i64 r.2][j]?=some u->(w4.drew.alloc (.cells #[r.2] 3)).cell? ((w4.heap.size:Addr).add j)=some u):=xN w4.drew r.2 3;have ap:=zH (xw r.2);have av:Hid (0+1<=maxLen):=by show 0+1<=maxLen;unfold maxLen;omega
   have aw:Hid ((0+1)*8<=140737488355328):=by show (0+1)*8<=140737488355328;omega
   have ay:Hid (w4.heap.size<=(w4.drew.alloc (.cells #[r.2] 3)).heap.size):=a4.size;have HX:Hid (∀v7 w7,w7.ownsRow w4.heap.size 3 1 v7 (0+1) ([]++[.int .i64 r.2])->(w4.drew.alloc (.cells #[r.2] 3)).grownBy w7 (Value.ownBlock (.slice none 0 0))->zB w4 w7/\w7.cell? w.heap.size=some (.pointer (some s))/\∃g c,v7=.slice (some ⟨g,0,none⟩) 1 c/\ZC w7 g [r.2]):=fun v7 w7 h1 h2=>by
    have V:zB w4 w7:=a4.grown h2 a4.size (fun k e=>by cases e);exact⟨V,(V.cell (p:=w.heap.size) (by show w.heap.size<_;omega)).trans c4,zjZ h1 a6⟩
   have aq:=zH (ar.out.trans a0);clear aA a0 au a4 c4 cR ar R a5 a6;go_upto_region 14 with fail;go_region_held_law (fun X=>X.cell? w.heap.size=some (.pointer (some s))) (first|exact S2|exact S1|exact c5|exact c6)
    (first
     |(refine zmS rfl _ _ 23 rfl w4.heap.size 3 i3 (.int .i64 0) 1 8 Tryz.underlying23 aV aZ b0 b1 rfl (by decide) (.slice none 0 0) 0 [] (by simp[Act.eval]) ax.out w4.heap.size 1 1 [.int .i64 r.2] (by simp[Act.eval]) rfl an.out ap.out av.out ay.out aw.out ?_;intro v7 w7 U q;obtain⟨V,S1,g7,c7,rfl,aE⟩:=HX.out _ _ U q)
     | (go_at_call 61;refine (ak.out _ _ _ V S1 aE).mono ?_;rintro e w8 ⟨n8,rfl,O8,aB,az,S2⟩))
   all_goals
    have y:Hid (zx w0.heap.size w8 s b O8 vars room (clF (K.take (i+1))).1/\zV O O8 w2 w8):=⟨by rw[ae.out];exact aB,(aq.out.trans (zV.of_below O4 V)).trans az⟩;have aM:Hid ((clF (K.take (i+1))).2=r.2):=by show _=_;rw[ae.out]
    clear aB az V aE U q S1 S2 c5 c6 HX ak ax an ap av aw ay aq ae;go_wp2;go_roundw
   case rel=>exact⟨i+1,O8,hlt,by go_num,by rw[aM.out],y.out.1,y.out.2⟩
   case measure=>simp[intOf];omega
  ·obtain rfl:i=K.length:=by omega
   rw[List.take_length] at a2 ⊢;have y:Hid (∃O',zx w0.heap.size wr s b O' vars room (clF K).1/\zV O O' w wr):=⟨Oi,a2,(zV.of_below O (zT aJ.out a8.out)).trans M⟩;clear a2 M ag cR;go_wp2;go_ret2;exact⟨rfl,y.out⟩
end
end Go.Proofs.YthifnefkdjkicaaGreatDoor.Bd
