/- The contract of Fits. -/
import Derived.Test.YtapobpgbcbplbaaGreatDoorCnAdd
namespace Go.Proofs.YtapobpgbcbplbaaGreatDoor
set_option maxHeartbeats 4000000
set_option maxRecDepth 100000
namespace Fm
open Go.RowKit Go.Maps Go.Proofs.YtapobpgbcbplbaaGreatDoor.Bd Go.Proofs.YtapobpgbcbplbaaGreatDoor.Bd.Num
def nsF:Nat->List Nd->Int->Nat
 |0,_,h=>if h=1 then 1 else 0
 |d+1,ns,h=>if zb ns h=24 then (if h=1 then 1 else 0) else nsF d ns (nd ns (pl h)).l+nsF d ns (nd ns (pl h)).h
def nsN(ns:List Nd)(h:Int):Nat:=nsF 24 ns h
theorem XT{ns:List Nd}(hr:zw ns):∀(d e:Nat) (h:Int),24<=zb ns h+d->24<=zb ns h+e->nsF d ns h=nsF e ns h
 |0,0,h,_,_=>rfl
 |0,e+1,h,hd,_=>by
  have:=(qh hr h).2;unfold nsF;rw[if_pos (show zb ns h=24 by omega)]
 |d+1,0,h,_,he=>by
  have:=(qh hr h).2;unfold nsF;rw[if_pos (show zb ns h=24 by omega)]
 |d+1,e+1,h,hd,he=>by
  unfold nsF
  by_cases ht:zb ns h=24
  ·rw[if_pos ht,if_pos ht]
  ·rw[if_neg ht,if_neg ht];obtain⟨k1,-,k2,-⟩:=xq hr ht;rw[XT hr d e _ (by omega) (by omega),XT hr d e (nd ns (pl h)).h (by omega) (by omega)]
theorem zjb{ns:List Nd}{h:Int}(hh:ze ns h=true)(ht:zb ns h=24):nsN ns h=h.toNat:=by
 unfold nsN nsF;rw[if_pos ht];rcases Zn hh ht with rfl|rfl<;>rfl
theorem zjI{ns:List Nd}(hr:zw ns){h:Int}(ht:zb ns h≠24):nsN ns h=nsN ns (nd ns (pl h)).l+nsN ns (nd ns (pl h)).h:=by
 obtain⟨k1,-,k2,-⟩:=xq hr ht;have h0:=(qh hr h).1;show nsF 24 ns h=nsF 24 _ _+nsF 24 _ _;rw[show nsF 24 ns h=nsF 23 ns (nd ns (pl h)).l+nsF 23 ns (nd ns (pl h)).h from by unfold nsF;rw[if_neg ht];rfl];rw[XT hr 23 24 _ (by omega) (by omega),XT hr 23 24 (nd ns (pl h)).h (by omega) (by omega)]
theorem J1(ns:List Nd):∀(d:Nat) (h:Int),nsF d ns h<=2^d
 |0,h=>by unfold nsF;split<;>simp
 |d+1,h=>by
  unfold nsF;have:=Nat.one_le_two_pow (n:=d+1);split
  ·split<;>omega
  ·have h1:=J1 ns d (nd ns (pl h)).l;have h2:=J1 ns d (nd ns (pl h)).h;rw[Nat.pow_succ];omega
theorem K6(ns:List Nd)(h:Int):nsN ns h<=16777216:=J1 ns 24 h
theorem zfn:∀(n:Nat) (l:List Nat),l.Nodup->(∀x∈l,x<n)->l.length<=n
 |0,l,_,h=>by
  cases l with
  |nil=>simp
  |cons a l=>have:=h a (List.mem_cons_self ..);omega
 |n+1,l,hd,h=>by
  have ih:=zfn n (l.erase n) (hd.erase n) (fun x hx=>by
   have h1:=(hd.mem_erase_iff).1 hx;have h2:=h x h1.2;have h3:=h1.1;omega)
  by_cases hm:n∈l
  ·rw[List.length_erase_of_mem hm] at ih;omega
  ·rw[List.erase_of_not_mem hm] at ih;omega
def qk(w:World)(v:Value)(m:Nat):Prop:=∃x:NV,v=x.val/\∃ds,Dig .u64 w (.slice x.a x.n x.c) ds/\Zg 1000000000 ds/\val 1000000000 ds=m
theorem qk.new{w w':World}{v:Value}{m:Nat}(h:qk w v m)(hb:zB w w'):qk w' v m:=by
 obtain⟨x,e,ds,h1,h2,h3⟩:=h;exact⟨x,e,ds,h1.below hb,h2,h3⟩
theorem qk.kept{S:Nat->Prop}{w w':World}{v:Value}{m:Nat}(h:qk w v m)(hk:zc S w w')(hn:∀b o n,S b->w.cell? ⟨b,o,none⟩≠some (.int .u64 n)):qk w' v m:=by
 obtain⟨x,e,ds,⟨a,cap,hv,hc,hi⟩,h2,h3⟩:=h;refine⟨x,e,ds,⟨a,cap,hv,hc,fun i hl=>?_⟩,h2,h3⟩;obtain⟨b,off,ha,hb,hcell⟩:=hi i hl;exact⟨b,off,ha,Nat.lt_of_lt_of_le hb hk.size,(hk.cell (a:=⟨b,off+i,none⟩) hb (fun hs=>hn b _ _ hs hcell)).trans hcell⟩
theorem zbq{w:World}{s:Value}{ds:List Nat}{m:Nat}(h:Dig .u64 w s ds)(hN:Zg 1000000000 ds)(hv:val 1000000000 ds=m):qk w (.agg #[s]) m:=by
 have h0:=h;obtain⟨a,cap,e,-⟩:=h0;subst e;exact⟨⟨a,ds.length,cap⟩,rfl,ds,h,hN,hv⟩
theorem qk.open{w:World}{v:Value}{m:Nat}(h:qk w v m)(hm:m<=100000000):∃s ds,v=.agg #[s]/\Dig .u64 w s ds/\Zg 1000000000 ds/\val 1000000000 ds=m/\ds.length<=1:=by
 obtain⟨x,e,ds,h1,h2,h3⟩:=h;exact⟨_,ds,e,h1,h2,h3,zdf (by omega) h2 (by rw[h3];omega)⟩
structure qx(w:World)(dk vars:Nat)(ns:List Nd)(L:List (Int × NV)):Prop where
 hmap:∃D,w.ownsMap Tryz.prog 3 Z7 dk L.length D/\Yi D L
 keys:∀p∈L,zb ns p.1≠24
 nums:∀p∈L,qk w p.2.val (nsN ns p.1)
section
variable {w w':World} {dk vars:Nat} {ns:List Nd} {L:List (Int × NV)}
theorem qx.lt(h:qx w dk vars ns L):dk<w.heap.size:=by obtain⟨D,hD,-⟩:=h.hmap;exact hD.lt
theorem qx.none(h:qx w dk vars ns L)(o:Nat):w.cell? ⟨dk,o,none⟩=none:=by
 obtain⟨D,⟨es,clock,hb,-⟩,-⟩:=h.hmap;unfold World.cell?;simp only[hb]
theorem qx.kept{S:Nat->Prop}(h:qx w dk vars ns L)(hk:zc S w w')(hn:¬S dk)(hc:∀b o n,S b->w.cell? ⟨b,o,Option.none⟩≠some (.int .u64 n)):qx w' dk vars ns L:=by
 obtain⟨D,hD,hR⟩:=h.hmap;exact⟨⟨D,xX hD hk hn,hR⟩,h.keys,fun p hp=>(h.nums p hp).kept hk hc⟩
theorem qx.new(h:qx w dk vars ns L)(hb:zB w w'):qx w' dk vars ns L:=h.kept (zc.of_below hb (fun _=>False)) (fun h=>h) (fun _ _ _ h=>h.elim)
theorem qx.no(h:qx w dk vars ns L)(b o:Nat)(n:Int)(e:b=dk):w.cell? ⟨b,o,Option.none⟩≠some (.int .u64 n):=by rw[e,h.none];exact fun h=>by cases h
theorem zaF(w:World)(o:Nat)(n:Int):(w.alloc (.cells #[.slice none 0 0] 152)).cell? ⟨w.heap.size,o,Option.none⟩≠some (.int .u64 n):=by
 cases o with
 |zero=>simp
 |succ o=>simp
theorem qk.box{v:Value}{m bx:Nat}(h:qk w v m)(hb:∀o n,w.cell? ⟨bx,o,Option.none⟩≠some (.int .u64 n))(u:Value):qk (w.setCell ⟨bx,0,Option.none⟩ u) v m :=
 h.kept (S:=fun j=>j=bx) (zc.setCell _ _ _ rfl) (fun b o n e=>by rw[e];exact hb o n)
theorem qx.box{bx:Nat}(h:qx w dk vars ns L)(hb:∀o n,w.cell? ⟨bx,o,Option.none⟩≠some (.int .u64 n))(hne:bx≠dk)(u:Value):qx (w.setCell ⟨bx,0,Option.none⟩ u) dk vars ns L :=
 h.kept (S:=fun j=>j=bx) (zc.setCell _ _ _ rfl) (fun e=>hne e.symm) (fun b o n e=>by rw[e];exact hb o n)
theorem qx.len(h:qx w dk vars ns L):L.length<=ns.length:=by
 obtain⟨D,-,hR⟩:=h.hmap;have hk:∀p∈L,p.1=2+(pl p.1:Int)/\pl p.1<ns.length:=fun p hp=>⟨(yX (h.keys p hp)).2.2.2,(yX (h.keys p hp)).2.1⟩;have hd:=Bd.Rep.nodup hR;have:=zfn ns.length (L.map fun p=>pl p.1) (by
  have e:(L.map fun p=>pl p.1)=(L.map Prod.fst).map pl:=by simp
  rw[e];refine(List.nodup_iff_pairwise_ne.1 hd |> fun hp=>?_);refine List.nodup_iff_pairwise_ne.2 (List.pairwise_map.2 (hp.imp_of_mem fun {a b} ha hb hab e=>hab ?_));obtain⟨p,hp1,rfl⟩:=List.mem_map.1 ha;obtain⟨q,hq1,rfl⟩:=List.mem_map.1 hb;rw[(hk p hp1).1,(hk q hq1).1,e]) (fun x hx=>by
  obtain⟨p,hp1,rfl⟩:=List.mem_map.1 hx;exact (hk p hp1).2)
 simpa using this
end
def Z5(dk vars:Nat)(ns:List Nd)(m:Nat)(w:World)(e:Ending)(w':World):Prop :=
 ∃v L',e=.returned v/\qk w' v m/\qx w' dk vars ns L'/\zc (fun j=>j=dk) w w'
def K4(B s b dk:Nat)(O:Nat->Prop)(vars:Nat)(room:Int)(ns:List Nd)(d:Nat):Prop :=
 ∀(h:Int) (L:List (Int × NV)) (w:World),zZ B w s b O vars room ns->qx w dk vars ns L->ze ns h=true->24<=zb ns h+d ->
  zC 118 #[.pointer (some ⟨s,0,none⟩),.int .i64 h,.map (some dk)] w (Z5 dk vars ns (nsN ns h) w)
section
variable {B s b dk:Nat} {O:Nat->Prop} {vars:Nat} {room:Int} {ns:List Nd}
theorem zcT(hl:ns.length<=90000)(_hv:vars<=24)(h:Int)(L:List (Int × NV))(w:World)(hS:zZ B w s b O vars room ns)(hD:qx w dk vars ns L)(hh:ze ns h=true)(ht:zb ns h=24) :
  zC 118 #[.pointer (some ⟨s,0,none⟩),.int .i64 h,.map (some dk)] w (Z5 dk vars ns (nsN ns h) w):=by
 have hi:=yO hh (by omega);have hb1:=Bd.zf w (.cells #[.slice none 0 0] 152);have c0:=(hS.new hb1).c0;have HG:=QN (hS.new hb1) h hi hl;rw[show decide (zb ns h≠24)=false by simp[ht],show qm ns h=⟨0,0,0⟩ by unfold qm;rw[if_pos ht]] at HG;unfold Nd.val at HG;have HGT:=zH HG;have hbe:=zjb hh ht;have hdl:=hD.lt;have bxl:w.heap.size<(w.alloc (.cells #[.slice none 0 0] 152)).heap.size:=by simp
 have bc:(w.alloc (.cells #[.slice none 0 0] 152)).cell? ⟨w.heap.size,0,none⟩=some (.slice none 0 0):=by simp
 have bf:(w.alloc (.cells #[.slice none 0 0] 152)).frozen? ⟨w.heap.size,0,none⟩=false:=by simp
 have BO:=zH (zaF w);have HB1:=zH hb1;have HD:=zH hD;have HBE:=zH hbe;obtain⟨hi0,hi1⟩:=hi;clear HG hS hD hh ht hb1 hbe;go_enter Tryz.func118,Tryz.ntmps118;go_wp2_with fail;refine HGT.out.mono ?_;rintro e w2 ⟨rfl,hb2⟩;generalize (w.alloc (.cells #[.slice none 0 0] 152))=W1 at *;have hb3:=hb2.alloc hb2.size (.cells #[.int .i64 0,.int .i64 0,.int .i64 0] 166);have HOF:=zH (zd3 h (w2.alloc (.cells #[.int .i64 0,.int .i64 0,.int .i64 0] 166)) hi0 hi1);have HB3:=zH hb3;clear hb2 hb3 HGT c0;go_wp2_with fail;refine HOF.out.mono ?_;rintro e w4 ⟨v4,rfl,ds4,hdg,hnm,hvl,hb4⟩;have hb5:=zT HB3.out hb4;have hnat:=zbq hdg hnm hvl;rw[<-HBE.out] at hnat;obtain⟨a4,c4,e4,-⟩:=id hdg;subst e4;have bc4:=(hb5.cell (p:=⟨w.heap.size,0,none⟩) bxl).trans bc;have bf4:=(hb5.frozen (p:=⟨w.heap.size,0,none⟩) bxl).trans bf;have hcs:(w4.setCell ⟨w.heap.size,0,none⟩ (.slice a4 ds4.length c4)).cell? ⟨w.heap.size,0,none⟩=some (.slice a4 ds4.length c4):=World.cell?_setCell_same _ _ _ bc4;have hno:∀o n,w4.cell? ⟨w.heap.size,o,none⟩≠some (.int .u64 n):=fun o n=>by
  rw[hb5.cell (p:=⟨w.heap.size,o,none⟩) bxl];exact BO.out o n
 have hb6:zB w w4:=zT HB1.out hb5;have hne:w.heap.size≠dk:=by omega
 have hk:zc (fun j=>j=dk) w (w4.setCell ⟨w.heap.size,0,none⟩ (.slice a4 ds4.length c4)):=(zc.of_below hb6 _).andThen (zc.setCell (S:=fun j=>j=w.heap.size) _ _ _ rfl) (fun i hi hlt=>by omega);have HFIN:Hid (Z5 dk vars ns (nsN ns h) w (.returned (.agg #[.slice a4 ds4.length c4])) (w4.setCell ⟨w.heap.size,0,none⟩ (.slice a4 ds4.length c4))):=⟨_,L,rfl,hnat.box hno _,(HD.out.new hb6).box hno hne _,hk⟩;clear hdg hnm hvl hnat hno hk hb4 hb5 hb6 HOF HB3 HB1 HD BO HBE bc bf;go_wp2;refine bodyPost_ret (v:=.agg #[.slice a4 ds4.length c4]) (by simp[results,Tryz.results118,go_sem,hcs]) rfl HFIN.out
theorem zhN(hl:ns.length<=90000)(L:List (Int × NV))(w:World)(hS:zZ B w s b O vars room ns)(hD:qx w dk vars ns L)(p:Int × NV)(hp:p∈L)(hh:ze ns p.1=true) :
  zC 118 #[.pointer (some ⟨s,0,none⟩),.int .i64 p.1,.map (some dk)] w (Z5 dk vars ns (nsN ns p.1) w):=by
 have hi:=yO hh (by omega);have ht:=hD.keys p hp;have hnat:=hD.nums p hp;have hb1:=Bd.zf w (.cells #[.slice none 0 0] 152);have c0:=(hS.new hb1).c0;have HG:=QN (hS.new hb1) p.1 hi hl;rw[show decide (zb ns p.1≠24)=true by simp[ht]] at HG;unfold Nd.val at HG;have HGT:=zH HG;have HL:Hid (∀W,zB w W->(Instr.lookup 220 (.map (some dk)) (.int .i64 p.1) true).run Tryz.prog W=.ok (.tuple #[.agg #[.slice p.2.a p.2.n p.2.c],.bool true]) W):=fun W hW=>by
  obtain⟨D,hDm,hR⟩:=(hD.new hW).hmap;exact zjE hDm hR hp
 have hdl:=hD.lt;have bxl:w.heap.size<(w.alloc (.cells #[.slice none 0 0] 152)).heap.size:=by simp
 have bc:(w.alloc (.cells #[.slice none 0 0] 152)).cell? ⟨w.heap.size,0,none⟩=some (.slice none 0 0):=by simp
 have bf:(w.alloc (.cells #[.slice none 0 0] 152)).frozen? ⟨w.heap.size,0,none⟩=false:=by simp
 have BO:=zH (zaF w);have HB1:=zH hb1;have HD:=zH hD;have HN:Hid (qk w (.agg #[.slice p.2.a p.2.n p.2.c]) (nsN ns p.1)):=hnat;clear HG hS hD hh ht hb1 hnat hp;generalize p.2.a=xa at *;generalize p.2.n=xn at *;generalize p.2.c=xc at *;generalize p.1=h at *;generalize qm ns h=gn at *;generalize nsN ns h=m at *;obtain⟨gv,gl,gh⟩:=gn;simp only at HGT;go_enter Tryz.func118,Tryz.ntmps118;go_wp2_with fail;refine HGT.out.mono ?_;rintro e w2 ⟨rfl,hb2⟩;generalize (w.alloc (.cells #[.slice none 0 0] 152))=W1 at *;have hb3:=hb2.alloc hb2.size (.cells #[.int .i64 gv,.int .i64 gl,.int .i64 gh] 166);have hb4:=zT HB1.out hb3;have hrun:=HL.out _ hb4;have hb5:=hb3.alloc hb3.size (.cells #[.slice xa xn xc] 152);have bc4:=(hb5.cell (p:=⟨w.heap.size,0,none⟩) bxl).trans bc;have bf4:=(hb5.frozen (p:=⟨w.heap.size,0,none⟩) bxl).trans bf;have hno:∀o n,((w2.alloc (.cells #[.int .i64 gv,.int .i64 gl,.int .i64 gh] 166)).alloc (.cells #[.slice xa xn xc] 152)).cell? ⟨w.heap.size,o,none⟩≠some (.int .u64 n):=fun o n=>by
  rw[hb5.cell (p:=⟨w.heap.size,o,none⟩) bxl];exact BO.out o n
 have hb6:zB w ((w2.alloc (.cells #[.int .i64 gv,.int .i64 gl,.int .i64 gh] 166)).alloc (.cells #[.slice xa xn xc] 152)):=zT HB1.out hb5;have hcs:(((w2.alloc (.cells #[.int .i64 gv,.int .i64 gl,.int .i64 gh] 166)).alloc (.cells #[.slice xa xn xc] 152)).setCell ⟨w.heap.size,0,none⟩ (.slice xa xn xc)).cell? ⟨w.heap.size,0,none⟩=some (.slice xa xn xc):=World.cell?_setCell_same _ _ _ bc4;have hne:w.heap.size≠dk:=by omega
 have hk:zc (fun j=>j=dk) w (((w2.alloc (.cells #[.int .i64 gv,.int .i64 gl,.int .i64 gh] 166)).alloc (.cells #[.slice xa xn xc] 152)).setCell ⟨w.heap.size,0,none⟩ (.slice xa xn xc)):=(zc.of_below hb6 _).andThen (zc.setCell (S:=fun j=>j=w.heap.size) _ _ _ rfl) (fun i hi hlt=>by omega);have HFIN:Hid (Z5 dk vars ns m w (.returned (.agg #[.slice xa xn xc])) (((w2.alloc (.cells #[.int .i64 gv,.int .i64 gl,.int .i64 gh] 166)).alloc (.cells #[.slice xa xn xc] 152)).setCell ⟨w.heap.size,0,none⟩ (.slice xa xn xc))):=⟨_,L,rfl,(HN.out.new hb6).box hno _,(HD.out.new hb6).box hno hne _,hk⟩;clear hb2 hb3 hb4 hb5 hb6 hno hk HGT HL HB1 HD HN BO c0 bc bf;go_wp2;refine bodyPost_ret (v:=.agg #[.slice xa xn xc]) (by simp[results,Tryz.results118,go_sem,hcs]) rfl HFIN.out
end
section
variable {w w':World} {dk vars:Nat} {ns:List Nd} {L:List (Int × NV)}
theorem zl3(hD:qx w dk vars ns L){a:Int}(ha:Bd.I64 a)(ht:zb ns a≠24)(x:NV)(hx:qk w x.val (nsN ns a))(hl:ns.length<=90000) :
  ∃w' L',(Instr.mapUpdate 220 (.map (some dk)) (.int .i64 a) x.val).run Tryz.prog w=.ok () w'/\qx w' dk vars ns L'/\zc (fun j=>j=dk) w w':=by
 have hlen:=hD.len;obtain⟨D,hDm,hR⟩:=hD.hmap;obtain⟨w',hrun,h1,h2⟩:=hDm.update zaP Tryz.underlying220 (by unfold maxLen;omega) (zag ha) (JH x);have hk:zc (fun k=>k=dk) w w':=zc.of_grown h2 (fun i h=>by cases h;rfl);have hno:∀b o n,b=dk->w.cell? ⟨b,o,Option.none⟩≠some (.int .u64 n):=fun b o n e=>hD.no b o n e
 by_cases hm:a∈L.map Prod.fst
 ·have hR':Yi (D.put (.int .i64 a) x.dat) (L.map fun q=>if q.1=a then (q.1,x) else q):=Bd.Rep.put_over hR (fun a b _ _ e=>by injection e) (fun _=>trivial) x hm;refine⟨w',_,hrun,⟨⟨_,hR'.size▸Bd.Qt h1,hR'⟩,fun p hp=>?_,fun p hp=>?_⟩,hk⟩
  ·obtain⟨q,hq,rfl⟩:=List.mem_map.1 hp;split
   ·exact hD.keys q hq
   ·exact hD.keys q hq
  ·obtain⟨q,hq,rfl⟩:=List.mem_map.1 hp;split
   ·rename_i e;show qk w' x.val (nsN ns q.1);rw[e];exact hx.kept hk hno
   ·exact(hD.nums q hq).kept hk hno
 ·have hR':Yi (D.put (.int .i64 a) x.dat) (L++[(a,x)]):=Bd.Rep.put hR (fun a b _ _ e=>by injection e) (fun _=>trivial) ha hm x;refine⟨w',_,hrun,⟨⟨_,hR'.size▸Bd.Qt h1,hR'⟩,fun p hp=>?_,fun p hp=>?_⟩,hk⟩
  ·rcases List.mem_append.1 hp with h|h
   ·exact hD.keys p h
   ·rw[List.mem_singleton] at h;subst h;exact ht
  ·rcases List.mem_append.1 hp with h|h
   ·exact(hD.nums p h).kept hk hno
   ·rw[List.mem_singleton] at h;subst h;exact hx.kept hk hno
end
structure xH(w:World)(bx:Nat):Prop where
 lt:bx<w.heap.size
 c:w.cell? ⟨bx,0,none⟩=some (.slice none 0 0)
 f:w.frozen? ⟨bx,0,none⟩=false
 no:∀o n,w.cell? ⟨bx,o,none⟩≠some (.int .u64 n)
theorem xH.kept{S:Nat->Prop}{w w':World}{bx:Nat}(h:xH w bx)(hk:zc S w w')(hn:¬S bx):xH w' bx :=
 ⟨Nat.lt_of_lt_of_le h.lt hk.size,(hk.cell (a:=⟨bx,0,none⟩) h.lt hn).trans h.c,(hk.frozen (a:=⟨bx,0,none⟩) h.lt hn).trans h.f,fun o n=>by rw[hk.cell (a:=⟨bx,o,none⟩) h.lt hn];exact h.no o n⟩
theorem xH.new{w w':World}{bx:Nat}(h:xH w bx)(hb:zB w w'):xH w' bx:=h.kept (zc.of_below hb (fun _=>False)) (fun h=>h)
theorem YA(w:World):xH (w.alloc (.cells #[.slice none 0 0] 152)) w.heap.size:=⟨by simp,by simp,by simp,zaF w⟩
structure CS(B s b dk:Nat)(O:Nat->Prop)(vars:Nat)(room:Int)(ns:List Nd)(W0 w:World)(nb bx:Nat)(gv gl gh:Int)(L:List (Int × NV)):Prop where
 space:zZ B w s b O vars room ns
 done:qx w dk vars ns L
 tri:Tri w nb gv gl gh
 box:xH w bx
 kept:zc (fun j=>j=dk) W0 w
section
variable {B s b dk:Nat} {O:Nat->Prop} {vars:Nat} {room:Int} {ns:List Nd} {W0 w w':World} {nb bx:Nat} {gv gl gh:Int} {L:List (Int × NV)}
theorem CS.new(h:CS B s b dk O vars room ns W0 w nb bx gv gl gh L)(hb:zB w w'):CS B s b dk O vars room ns W0 w' nb bx gv gl gh L :=
 ⟨h.space.new hb,h.done.new hb,h.tri.new hb,h.box.new hb,h.kept.trans (zc.of_below hb _)⟩
theorem CS.ways{d:Nat}(hW:K4 B s b dk O vars room ns d)(ho:¬O dk)(hs:s≠dk)(hn:nb≠dk)(hx:bx≠dk)(h:CS B s b dk O vars room ns W0 w nb bx gv gl gh L)(g:Int)(hh:ze ns g=true)(hd:24<=zb ns g+d) :
  zC 118 #[.pointer (some ⟨s,0,none⟩),.int .i64 g,.map (some dk)] w fun e w'=>∃r L',e=.returned r/\qk w' r (nsN ns g)/\CS B s b dk O vars room ns W0 w' nb bx gv gl gh L'/\zc (fun j=>j=dk) w w':=by
 refine(hW g L w h.space h.done hh hd).mono ?_;rintro e w2 ⟨r,L',he,hr,hD,hk⟩;exact⟨r,L',he,hr,⟨h.space.kept hk (fun j hj e=>ho (e▸hj)) hs,hD,h.tri.kept hk hn,h.box.kept hk hx,h.kept.trans hk⟩,hk⟩
theorem CS.add(h:CS B s b dk O vars room ns W0 w nb bx gv gl gh L){r1 r2:Value}{m1 m2:Nat}(h1:qk w r1 m1)(h2:qk w r2 m2)(l1:m1<=100000000)(l2:m2<=100000000) :
  zC 164 #[r1,r2] w fun e w'=>∃a n c,e=.returned (.agg #[.slice a n c])/\qk w' (.agg #[.slice a n c]) (m1+m2)/\CS B s b dk O vars room ns W0 w' nb bx gv gl gh L/\zB w w':=by
 obtain⟨s1,d1,rfl,g1,n1,v1,k1⟩:=h1.open l1;obtain⟨s2,d2,rfl,g2,n2,v2,k2⟩:=h2.open l2;refine(zlj s1 s2 d1 d2 w g1 g2 n1.small n2.small (by omega) (by omega)).mono ?_;rintro e w2 ⟨s3,he,d3,g3,n3,v3,-,hb⟩;have hn:=zbq g3 n3 v3;rw[v1,v2] at hn;obtain⟨a,c,e3,-⟩:=id g3;subst e3;exact⟨a,_,c,he,hn,h.new hb,hb⟩
end
section
variable {B s b dk:Nat} {O:Nat->Prop} {vars:Nat} {room:Int} {ns:List Nd} {W0 w w':World} {nb bx:Nat} {gv gl gh:Int} {L:List (Int × NV)}
def YQ(B s b dk:Nat)(O:Nat->Prop)(vars:Nat)(room:Int)(ns:List Nd)(W0:World)(nb bx:Nat)(gv gl gh:Int)(m:Nat)(pv:Value)(wx:World):Prop :=
 ∃bx2 a n c L3,pv=.pointer (some ⟨bx2,0,none⟩)/\wx.cell? ⟨bx2,0,none⟩=some (.slice a n c)/\bx2<wx.heap.size/\bx2≠dk/\bx2≠bx/\qk wx (.agg #[.slice a n c]) m/\CS B s b dk O vars room ns W0 wx nb bx gv gl gh L3
theorem CS.sum(h:CS B s b dk O vars room ns W0 w nb bx gv gl gh L){bx2:Nat}(hb:xH w bx2)(h0:W0.heap.size<=bx2)(hO:∀k,O k->k<W0.heap.size)(hs:s<W0.heap.size)(hd:dk<W0.heap.size)(hn:bx2≠nb)(hx:bx2≠bx){a:Option Addr}{n c m:Nat}(hm:qk w (.agg #[.slice a n c]) m) :
  YQ B s b dk O vars room ns W0 nb bx gv gl gh m (.pointer (some ⟨bx2,0,none⟩)) (w.setCell ⟨bx2,0,none⟩ (.slice a n c)):=by
 have hk:zc (fun j=>j=bx2) w (w.setCell ⟨bx2,0,none⟩ (.slice a n c)):=zc.setCell _ _ _ rfl;refine⟨bx2,a,n,c,L,rfl,World.cell?_setCell_same _ _ _ hb.c,Nat.lt_of_lt_of_le hb.lt hk.size,by omega,hx,hm.box hb.no _,⟨h.space.kept hk (fun j hj e=>by have:=hO j hj;omega) (by omega),h.done.box hb.no (by omega) _,h.tri.kept hk (fun e=>hn e.symm),h.box.kept hk (fun e=>hx e.symm),h.kept.andThen hk (fun i hi hlt=>by omega)⟩⟩
theorem CS.sum_new(h:CS B s b dk O vars room ns W0 w nb bx gv gl gh L)(hd:dk<w.heap.size){a:Option Addr}{n c m:Nat}(hm:qk w (.agg #[.slice a n c]) m) :
  YQ B s b dk O vars room ns W0 nb bx gv gl gh m (.pointer (some ⟨w.heap.size,0,none⟩)) (w.alloc (.cells #[.slice a n c] 152)) :=
 ⟨w.heap.size,a,n,c,L,rfl,by simp,by simp,by omega,by have:=h.box.lt;omega,hm.new (Bd.zf _ _),h.new (Bd.zf _ _)⟩
theorem YQ.tri3{m:Nat}{pv:Value}(h:YQ B s b dk O vars room ns W0 nb bx gv gl gh m pv w):w.cell? ⟨nb,0,none⟩=some (.int .i64 gv)/\w.cell? ⟨nb,1,none⟩=some (.int .i64 gl)/\w.cell? ⟨nb,2,none⟩=some (.int .i64 gh):=by
 obtain⟨_,_,_,_,_,-,-,-,-,-,-,hc⟩:=h;exact⟨hc.tri.c0,hc.tri.c1,hc.tri.c2⟩
theorem zn3(hg:zI vars ns)(hl:ns.length<=90000)(_hv:vars<=24)(ho:¬O dk)(hs:s≠dk){d:Nat}(hW:K4 B s b dk O vars room ns d)(h:Int)(L:List (Int × NV))(w:World)(hS:zZ B w s b O vars room ns)(hD:qx w dk vars ns L)(hh:ze ns h=true)(ht:zb ns h≠24)(hd:24<=zb ns h+((d+1:Nat):Int))(hnk:h∉L.map Prod.fst) :
  zC 118 #[.pointer (some ⟨s,0,none⟩),.int .i64 h,.map (some dk)] w (Z5 dk vars ns (nsN ns h) w):=by
 have hi:=yO hh (by omega);have hb1:=Bd.zf w (.cells #[.slice none 0 0] 152);have c0:=(hS.new hb1).c0;have HG:=QN (hS.new hb1) h hi hl;have h0:=(qh hg.ranked h).1;have ht24:=top_lt hg.ranked ht;obtain⟨k1,k2,k3,k4⟩:=xq hg.ranked ht;have hsum:=zjI hg.ranked ht;have hgv:(qm ns h).v=zb ns h:=by rw[Xw ht];exact(yX ht).2.2.1.symm
 have hgn:=Xw ht;rw[show decide (zb ns h≠24)=true by simp[ht]] at HG;unfold Nd.val at HG;rw[<-hgn] at k1 k2 k3 k4 hsum;have HL:Hid (∀W,zB w W->(Instr.lookup 220 (.map (some dk)) (.int .i64 h) true).run Tryz.prog W=.ok (.tuple #[.agg #[.slice none 0 0],.bool false]) W):=fun W hW=>by
  obtain⟨D,hDm,hR⟩:=(hD.new hW).hmap;exact zh3 hDm hR hi hnk
 obtain⟨t,et⟩:∃t:Nat,zb ns h=(t:Int):=⟨(zb ns h).toNat,by omega⟩;have hPUT:Hid (∀W L' x,qx W dk vars ns L'->qk W (NV.val x) (nsN ns h)->∃w' L'',(Instr.mapUpdate 220 (.map (some dk)) (.int .i64 h) x.val).run Tryz.prog W=.ok () w'/\qx w' dk vars ns L''/\zc (fun j=>j=dk) W w'):=fun W L' x h1 h2=>zl3 h1 hi ht x h2 hl;rw[et] at hgv ht24 k1 k3 hd;generalize qm ns h=gn at *;obtain⟨gv,gl,gh⟩:=gn;simp only at hgv k1 k2 k3 k4 hsum HG;subst hgv;have HW1:Hid (∀X L' nb bx,nb≠dk->bx≠dk->CS B s b dk O vars room ns w X nb bx (t:Int) gl gh L'->zC 118 #[.pointer (some ⟨s,0,none⟩),.int .i64 gl,.map (some dk)] X fun e w'=>∃r L',e=.returned r/\qk w' r (nsN ns gl)/\CS B s b dk O vars room ns w w' nb bx (t:Int) gl gh L'/\zc (fun j=>j=dk) X w'):=fun X L' nb bx h1 h2 hc =>
  hc.ways hW ho hs h1 h2 gl k2 (by omega)
 have HW2:Hid (∀X L' nb bx,nb≠dk->bx≠dk->CS B s b dk O vars room ns w X nb bx (t:Int) gl gh L'->zC 118 #[.pointer (some ⟨s,0,none⟩),.int .i64 gh,.map (some dk)] X fun e w'=>∃r L',e=.returned r/\qk w' r (nsN ns gh)/\CS B s b dk O vars room ns w w' nb bx (t:Int) gl gh L'/\zc (fun j=>j=dk) X w'):=fun X L' nb bx h1 h2 hc =>
  hc.ways hW ho hs h1 h2 gh k4 (by omega)
 have l1:nsN ns gl<=100000000:=by have:=K6 ns gl;omega
 have l2:nsN ns gh<=100000000:=by have:=K6 ns gh;omega
 have hOw:∀k,O k->k<w.heap.size:=fun k hk=>(hS.own k hk).2;have hsl:=hS.slt;have hdl:=hD.lt;have HGT:=zH HG;have HS:=zH hS;have HD:=zH hD;have HB1:=zH hb1;have HSUM:=zH hsum;have HOW:=zH hOw;have BX:=zH (YA w);clear HG hS hD hh ht hb1 hsum hOw hW hg k1 k2 k3 k4 hnk hgn et;generalize nsN ns h=m at *;generalize nsN ns gl=m1 at *;generalize nsN ns gh=m2 at *;have bxl:=BX.out.lt;go_enter Tryz.func118,Tryz.ntmps118;go_wp2_with fail;refine HGT.out.mono ?_;rintro e w2 ⟨rfl,hb2⟩;generalize (w.alloc (.cells #[.slice none 0 0] 152))=W1 at *;have hb3:=hb2.alloc hb2.size (.cells #[.int .i64 t,.int .i64 gl,.int .i64 gh] 166);have hb4:=zT HB1.out hb3;have hrun:=HL.out _ hb4;have hs2:=hb2.size;have hb5:=Bd.zf (w2.alloc (.cells #[.int .i64 t,.int .i64 gl,.int .i64 gh] 166)) (.cells #[.slice none 0 0] 152);have cs:CS B s b dk O vars room ns w ((w2.alloc (.cells #[.int .i64 t,.int .i64 gl,.int .i64 gh] 166)).alloc (.cells #[.slice none 0 0] 152)) w2.heap.size w.heap.size (t:Int) gl gh L :=
  CS.new ⟨HS.out.new hb4,HD.out.new hb4,zkO w2 (t:Int) gl gh 166,BX.out.new hb3,zc.of_below hb4 _⟩ hb5
 have HCS:=zH cs;clear hb2 hb3 hb4 hb5 cs HGT HL HS HD BX c0;go_wp2_with fail;generalize ((w2.alloc (.cells #[.int .i64 t,.int .i64 gl,.int .i64 gh] 166)).alloc (.cells #[.slice none 0 0] 152))=W4 at *;have cs0:=HCS.out.new zF.drew;have csA:=(HCS.out.new (Bd.zf W4 (.cells #[.slice none 0 0] 152))).new zF.drew;have nd1:w2.heap.size≠dk:=by omega
 have nd2:w.heap.size≠dk:=by omega
 have nn1:w.heap.size<w2.heap.size:=by omega
 have w4l:w2.heap.size<W4.heap.size:=HCS.out.tri.lt;have HNO:Hid (∀X L',CS B s b dk O vars room ns w X w2.heap.size w.heap.size (t:Int) gl gh L'->∀b o n,b=dk->X.cell? ⟨b,o,none⟩≠some (.int .u64 n)):=fun X L' hc b o n e=>hc.done.no b o n e;have nA:W4.heap.size≠dk:=by omega
 have nB:w.heap.size<=W4.heap.size:=by omega
 have nC:W4.heap.size≠w2.heap.size:=by omega
 have nD:W4.heap.size≠w.heap.size:=by omega
 clear hrun;go_cut [11] (fun pv wx=>YQ B s b dk O vars room ns w w2.heap.size w.heap.size (t:Int) gl gh m pv wx)
 case first =>
  go_region_held3 (fun X=>X.cell? ⟨w2.heap.size,0,none⟩=some (.int .i64 t)/\X.cell? ⟨w2.heap.size,1,none⟩=some (.int .i64 gl)/\X.cell? ⟨w2.heap.size,2,none⟩=some (.int .i64 gh))
   (first
    |exact⟨cs0.tri.c0,cs0.tri.c1,cs0.tri.c2⟩
    |exact⟨csA.tri.c0,csA.tri.c1,csA.tri.c2⟩
    |exact⟨cs2.tri.c0,cs2.tri.c1,cs2.tri.c2⟩
    |exact⟨(cs2.new (Bd.zf _ _)).tri.c0,(cs2.new (Bd.zf _ _)).tri.c1,(cs2.new (Bd.zf _ _)).tri.c2⟩
    |exact⟨cs3.tri.c0,cs3.tri.c1,cs3.tri.c2⟩
    |exact⟨(cs3.new (Bd.zf _ _)).tri.c0,(cs3.new (Bd.zf _ _)).tri.c1,(cs3.new (Bd.zf _ _)).tri.c2⟩
    |exact hsm.tri3
    |exact⟨cs7.tri.c0,cs7.tri.c1,cs7.tri.c2⟩
    | exact ⟨(cs7.new (Bd.zf _ _)).tri.c0,(cs7.new (Bd.zf _ _)).tri.c1,(cs7.new (Bd.zf _ _)).tri.c2⟩)
   (first
    |(go_at_call 118;with_reducible refine(HW1.out _ _ _ _ nd1 nd2 cs0).mono ?_;rintro e w5 ⟨r1,L1,rfl,hn1,cs2,hk1⟩)
    |(go_at_call 118;with_reducible refine(HW1.out _ _ _ _ nd1 nd2 csA).mono ?_;rintro e w5 ⟨r1,L1,rfl,hn1,cs2,hk1⟩)
    |(go_at_call 118;with_reducible refine(HW2.out _ _ _ _ nd1 nd2 cs2).mono ?_;rintro e w6 ⟨r2,L2,rfl,hn2,cs3,hk2⟩;have hn3:=hn1.kept hk2 (HNO.out _ _ cs2))
    |(go_at_call 118;with_reducible refine(HW2.out _ _ _ _ nd1 nd2 (cs2.new (Bd.zf _ _))).mono ?_;rintro e w6 ⟨r2,L2,rfl,hn2,cs3,hk2⟩;have hn3:=(hn1.new (Bd.zf _ _)).kept hk2 (HNO.out _ _ (cs2.new (Bd.zf _ _))))
    |(go_at_call 164;(with_reducible refine(cs3.add hn3 hn2 l1 l2).mono ?_);rintro e w7 ⟨a7,n7,c7,rfl,hn7,cs7,hb7⟩;rw[<-HSUM.out] at hn7;have hbx:xH w7 W4.heap.size:=((((YA W4).new zF.drew).kept hk1 nA).kept hk2 nA).new hb7;have hsm:=cs7.sum hbx nB HOW.out hsl hdl nC nD hn7;have q1:=hbx.c;have q2:=hbx.f)
    |(go_at_call 164;(with_reducible refine(cs3.add hn3 hn2 l1 l2).mono ?_);rintro e w7 ⟨a7,n7,c7,rfl,hn7,cs7,hb7⟩;rw[<-HSUM.out] at hn7;have z1:W4.heap.size<=w5.heap.size:=hk1.size;have hbx:xH w7 w5.heap.size:=((YA w5).kept hk2 (show w5.heap.size≠dk by omega)).new hb7;have hsm:=cs7.sum hbx (by omega) HOW.out hsl hdl (by omega) (by omega) hn7;have q1:=hbx.c;have q2:=hbx.f)
    |(go_at_call 164;(with_reducible refine((cs3.new (Bd.zf _ _)).add (hn3.new (Bd.zf _ _)) (hn2.new (Bd.zf _ _)) l1 l2).mono ?_);rintro e w7 ⟨a7,n7,c7,rfl,hn7,cs7,hb7⟩;rw[<-HSUM.out] at hn7;have z1:W4.heap.size<=w5.heap.size:=hk1.size;have z2:w5.heap.size<=w6.heap.size:=hk2.size;have hbx:xH w7 w6.heap.size:=(YA w6).new hb7;have hsm:=cs7.sum hbx (by omega) HOW.out hsl hdl (by omega) (by omega) hn7;have q1:=hbx.c;have q2:=hbx.f)
    | (go_at_call 164;(with_reducible refine (cs3.add hn3 hn2 l1 l2).mono ?_);rintro e w7 ⟨a7,n7,c7,rfl,hn7,cs7,hb7⟩;rw [<- HSUM.out] at hn7;have hsm:=cs7.sum_new (Nat.lt_of_lt_of_le hdl cs7.kept.size) hn7))
  all_goals
   go_wp2_with fail;go_meet
   case rel=>exact hsm
 case rest =>obtain⟨bx2,a,n,c,L3,rfl,hc2,hl2,hd2,hx2,hn,cs3⟩:=hcut;obtain⟨w8,L4,hrun,hD8,hk8⟩:=hPUT.out wc L3 ⟨a,n,c⟩ cs3.done hn;unfold NV.val at hrun;have hc8:=(hk8.cell (a:=⟨bx2,0,none⟩) hl2 hd2).trans hc2;have hb8:=cs3.box.kept hk8 nd2;have bc8:=hb8.c;have bf8:=hb8.f;have hn8:=hn.kept hk8 (HNO.out _ _ cs3);have hcs:(w8.setCell ⟨w.heap.size,0,none⟩ (.slice a n c)).cell? ⟨w.heap.size,0,none⟩=some (.slice a n c):=World.cell?_setCell_same _ _ _ bc8;have hk:zc (fun j=>j=dk) w (w8.setCell ⟨w.heap.size,0,none⟩ (.slice a n c)):=(cs3.kept.trans hk8).andThen (zc.setCell (S:=fun j=>j=w.heap.size) _ _ _ rfl) (fun i hi hlt=>by omega);have HFIN:Hid (Z5 dk vars ns m w (.returned (.agg #[.slice a n c])) (w8.setCell ⟨w.heap.size,0,none⟩ (.slice a n c))):=⟨_,L4,rfl,hn8.box hb8.no _,hD8.box hb8.no nd2 _,hk⟩;clear hn cs3 hD8 hk8 hb8 hn8 hk HW1 HW2 HNO hPUT HCS cs0 csA HOW;go_wp2;refine bodyPost_ret (v:=.agg #[.slice a n c]) (by simp[results,Tryz.results118,go_sem,hcs]) rfl HFIN.out
theorem zcX(hg:zI vars ns)(hl:ns.length<=90000)(hv:vars<=24)(ho:¬O dk)(hs:s≠dk):∀d,K4 B s b dk O vars room ns d
 |0=>fun h L w hS hD hh hd=>zcT hl hv h L w hS hD hh (by have:=(qh hg.ranked h).2;omega)
 |d+1=>fun h L w hS hD hh hd=>by
  by_cases ht:zb ns h=24
  ·exact zcT hl hv h L w hS hD hh ht
  ·by_cases hk:h∈L.map Prod.fst
   ·obtain⟨p,hp,rfl⟩:=List.mem_map.1 hk;exact zhN hl L w hS hD p hp hh
   ·exact zn3 hg hl hv ho hs (zcX hg hl hv ho hs d) h L w hS hD hh ht hd hk
end
end Fm
namespace Bd
open Go.RowKit Num Go.Sort
theorem zaz(va vb:Value)(a b:List Nat)(w:World)(ha:Dig .u64 w va a)(hb:Dig .u64 w vb b)(na:∀i,dig a i<1000000000)(nb:∀i,dig b i<1000000000)(la:a.length<=10000)(lb:b.length<=10000) :
  zR 119 #[.agg #[va],.agg #[vb]] w (.int .i64 (Zf (val 1000000000 a) (val 1000000000 b))):=by
 obtain⟨aa,ca,eva,hca,hcella⟩:=id ha;obtain⟨ab,cb,evb,hcb,hcellb⟩:=id hb;subst eva evb;clear hcella hcellb hca hcb;obtain⟨n,hn,hna,hnb,hln⟩:∃n:Nat,max (a.length:Int) (b.length:Int)=(n:Int)/\a.length<=n/\b.length<=n/\n<=10000:=⟨max a.length b.length,by omega,by omega,by omega,by omega⟩;go_enter Tryz.func119,Tryz.ntmps119;go_wp2_with fail;clear hn;go_loopw [17] (fun i wr=>∃k:Nat,k<=n/\i=.int .i64 k/\(∀j,n-k<=j->j<n->dig a j=dig b j)/\Below (w.heap.size+2) ((w.alloc (.cells #[.slice aa a.length ca] 152)).alloc (.cells #[.slice ab b.length cb] 152)) wr)
   (fun i _=>n-(intOf i).toNat)
 case atStart=>exact⟨0,Nat.zero_le _,rfl,fun j h1 h2=>by omega,Below.refl _ _⟩
 case round =>
  obtain⟨k,hk,rfl,heq,hbel⟩:=hrel;have HE:Hid (∀j,n-k<=j->j<n->dig a j=dig b j):=heq;clear heq;have hbw:zB w wr:=((zF.alloc zN _).alloc (by simp) _).trans (hbel.mono (by omega))
  by_cases hlt:k<n
  ·have c0:wr.cell? ⟨w.heap.size,0,none⟩=some (.slice aa a.length ca):=(hbel.cell (p:=⟨w.heap.size,0,none⟩) (by simp)).trans (by simp);have c1:wr.cell? ⟨w.heap.size+1,0,none⟩=some (.slice ab b.length cb):=(hbel.cell (p:=⟨w.heap.size+1,0,none⟩) (by simp)).trans (by simp);have k0:=cell_regrown c0;have k1:=cell_regrown c1;have cA:∀d os,zC 165 #[.agg #[.slice aa a.length ca],.int .i64 ((n:Int)-1-k)] (grow (redrawn wr d) os) fun e w''=>e=.returned (.int .u64 ((dig a (n-1-k):Nat):Int))/\∃p:Regrown,w''=grow (redrawn wr p.d) p.os:=fun d os=>by
    have:=zbO _ a ((n:Int)-1-k) (grow (redrawn wr d) os) (ha.below (hbw.trans ((below_regrown wr d os).mono hbw.size))) (by omega) (by omega) (by omega);rw[show ((n:Int)-1-k).toNat=n-1-k by omega] at this;exact Calls.regrown_of this
   have cB:∀d os,zC 165 #[.agg #[.slice ab b.length cb],.int .i64 ((n:Int)-1-k)] (grow (redrawn wr d) os) fun e w''=>e=.returned (.int .u64 ((dig b (n-1-k):Nat):Int))/\∃p:Regrown,w''=grow (redrawn wr p.d) p.os:=fun d os=>by
    have:=zbO _ b ((n:Int)-1-k) (grow (redrawn wr d) os) (hb.below (hbw.trans ((below_regrown wr d os).mono hbw.size))) (by omega) (by omega) (by omega);rw[show ((n:Int)-1-k).toNat=n-1-k by omega] at this;exact Calls.regrown_of this
   have hx:=na (n-1-k);have hy:=nb (n-1-k);have hlt':(k:Int)<n:=by omega
   have e1:IntKind.i64.wrap ((n:Int)-1)=(n:Int)-1:=w64 (by omega) (by omega);have e2:IntKind.i64.wrap ((n:Int)-1-k)=(n:Int)-1-k:=w64 (by omega) (by omega);go_wp2_with fail;refine wp_region_quiet_below mixed (by kernel_rfl) ?_
   repeat(quiet_step (first|(go_at_call_of 165 aa;exact cA _ _)|(go_at_call_of 165 ab;exact cB _ _)))
   refine wpQuiet_nil ?_;intro _ hw';obtain⟨⟨dq,osq⟩,hw''⟩:=hw';subst hw'';clear cA cB k0 k1;have hgr:zB w (grow (redrawn wr dq) osq):=hbw.trans ((below_regrown wr dq osq).mono hbw.size);generalize hdx:dig a (n-1-k)=x at *;generalize hdy:dig b (n-1-k)=y at *;have HX:Hid (dig a (n-1-k)=x):=hdx;have HY:Hid (dig b (n-1-k)=y):=hdy;clear hdx hdy;go_wp2
   ·go_ret;refine⟨JC ?_,hgr⟩;have hxy:x<y:=by assumption
    exact(zfL (ze5 na hna hnb (t:=n-1-k) (by omega) (by rw[HX.out,HY.out];exact hxy) (fun i h1 h2=>HE.out i (by omega) h2))).symm
   ·go_ret;refine⟨JC ?_,hgr⟩;have hxy:y<x:=by assumption
    exact(zfF (ze5 nb hnb hna (t:=n-1-k) (by omega) (by rw[HX.out,HY.out];exact hxy) (fun i h1 h2=>(HE.out i (by omega) h2).symm))).symm
   ·go_roundw
    case rel =>
     refine⟨k+1,by omega,by go_num,fun j h1 h2=>?_,hbel.trans ((below_regrown wr dq osq).mono (by have:=hbel.size;simpa using this))⟩
     by_cases hj:j=n-1-k
     ·rw[hj,HX.out,HY.out];omega
     ·exact HE.out j (by omega) h2
    case measure=>simp[intOf];omega
  ·obtain rfl:k=n:=by omega
   go_wp2;go_ret;refine⟨JC ?_,hbw⟩;rw[ziA hna hnb (fun i h=>HE.out i (by omega) h),zgD]
end Bd
namespace Bd
open Go.RowKit Num Go.Sort
theorem ziQ{v v1:Value}{a ds1:List Nat}{w W:World}(ha:Dig .u64 w v a)(na:∀i,dig a i<1000000000)(la:a.length<=10000)(hd1:Dig .u64 W v1 ds1)(hn1:Zg 1000000000 ds1)(hv1:val 1000000000 ds1=9223372036854775807)(hb:zB w W) :
  zR 119 #[.agg #[v],.agg #[v1]] W (.int .i64 (Zf (val 1000000000 a) 9223372036854775807)):=by
 have h3:ds1.length<=3:=zdf (by omega) hn1 (by rw[hv1];omega);have:=zaz v v1 a ds1 W (ha.below hb) hd1 na hn1.small la (by omega)
 rwa [hv1] at this
theorem zoJ(v:Value)(a:List Nat)(w:World)(ha:Dig .u64 w v a)(na:∀i,dig a i<1000000000)(la:a.length<=10000) :
  zC 72 #[.agg #[v]] w fun e w'=>(val 1000000000 a<=9223372036854775807->e=.returned (.tuple #[.int .i64 (val 1000000000 a:Nat),.bool true]))/\(9223372036854775807<val 1000000000 a->e=.returned (.tuple #[.int .i64 0,.bool false]))/\zB w w':=by
 obtain⟨aa,ca,eva,hca,hcella⟩:=id ha;subst eva;go_enter Tryz.func72,Tryz.ntmps72;go_upto_region 1 with fail;go_cut [10] (fun c wx=>c=.bool (decide (9223372036854775807<val 1000000000 a))/\Below (w.heap.size+1) (w.alloc (.cells #[.slice aa a.length ca] 152)) wx)
 case first =>
  go_region_with (first
   |(go_at_call 120;refine(zd3 _ _ (by omega) (by omega)).mono ?_;rintro e w1 ⟨v1,rfl,ds1,hd1,hn1,hv1,hb1⟩;have hbw:zB w w1:=((zF.alloc zN _).drew).trans (hb1.mono (by simp));have hc1:w1.cell? ⟨w.heap.size,0,none⟩=some (.slice aa a.length ca):=(hb1.cell (p:=⟨w.heap.size,0,none⟩) (by simp)).trans (by simp))
   | (go_at_call 119;refine (ziQ ha na la hd1 hn1 hv1 hbw).mono ?_;rintro e w2 ⟨rfl,hb2⟩;have hbx:Below (w.heap.size + 1) (w.alloc (.cells #[.slice aa a.length ca] 152)) w2:=(zF.drew.trans (hb1.mono (by simp))).trans (hb2.mono (by have:=hb1.size;simp at this;omega))))
  all_goals
   go_wp2_with fail;go_meet
   case rel=>exact⟨congrArg Value.bool (ziY _ _),hbx⟩
 case rest =>
  obtain⟨rfl,hbel⟩:=hcut;have hbw:zB w wc:=(zF.alloc zN _).trans (hbel.mono (by omega))
  by_cases hbig:9223372036854775807<val 1000000000 a
  ·have hd:decide (9223372036854775807<val 1000000000 a)=true:=by simp[hbig]
   rw[hd];have HB:Hid (9223372036854775807<val 1000000000 a):=hbig;clear hd hbig;go_wp2;go_ret2;exact⟨fun h=>by have:=HB.out;omega,fun _=>rfl,hbw⟩
  ·have hd:decide (9223372036854775807<val 1000000000 a)=false:=by simp[hbig]
   rw[hd];have HB:Hid (val 1000000000 a<=9223372036854775807):=by show _<=_;omega
   clear hd hbig;have c0:wc.cell? ⟨w.heap.size,0,none⟩=some (.slice aa a.length ca):=(hbel.cell (p:=⟨w.heap.size,0,none⟩) (by simp)).trans (by simp);go_wp2_with fail;go_loop [5,15] (fun o i=>∃k t:Nat,k<=a.length/\i=.int .i64 k/\o=.int .i64 t/\val 1000000000 a=t*1000000000^(a.length-k)+S 1000000000 (dig a) (a.length-k)) (fun _ i=>a.length-(intOf i).toNat)
   case atStart=>exact⟨0,0,Nat.zero_le _,rfl,rfl,by simp[val]⟩
   case round =>
    obtain⟨k,t,hk,rfl,rfl,hval⟩:=hrel
    by_cases hlt:k<a.length
    ·obtain⟨b,off,haa,hbb,hcl⟩:=hcella (a.length-1-k) (by omega);subst haa;have hcl':wc.cell? ⟨b,off+(a.length-1-k),none⟩=some (.int .u64 ((dig a (a.length-1-k):Nat):Int)):=(hbw.cell (p:=⟨b,off+(a.length-1-k),none⟩) hbb).trans hcl;have hval2:=hval;rw[show a.length-k=(a.length-1-k)+1 by omega] at hval2;have hst:=zme hval2;have hle:=zkv (by omega) hst;have HV:=HB.out;have hdd:=na (a.length-1-k);have HS:Hid (val 1000000000 a=(t*1000000000+dig a (a.length-1-k))*1000000000^(a.length-1-k)+S 1000000000 (dig a) (a.length-1-k)):=hst;have hle2:t*1000000000+dig a (a.length-1-k)<=9223372036854775807:=by omega
     clear hst hval2 hval hcl hle HV;have e1:((a.length:Int)-1-k).toNat=a.length-1-k:=by omega
     generalize hD:dig a (a.length-1-k)=D at *;have HD:Hid (dig a (a.length-1-k)=D):=hD;clear hD;go_wp2;go_round
     case rel =>refine⟨k+1,t*1000000000+D,by omega,by go_num,by go_num,?_⟩;rw[show a.length-(k+1)=a.length-1-k by omega];exact HS.out
     case measure=>simp[intOf];omega
    ·obtain rfl:k=a.length:=by omega
     have HT:Hid (val 1000000000 a=t):=by show _=_;simpa[S] using hval
     clear hval;go_wp2;go_ret2;refine⟨fun _=>?_,fun h=>by have:=HB.out;omega,hbw⟩;rw[HT.out];rfl
end Bd
end Go.Proofs.YtapobpgbcbplbaaGreatDoor
