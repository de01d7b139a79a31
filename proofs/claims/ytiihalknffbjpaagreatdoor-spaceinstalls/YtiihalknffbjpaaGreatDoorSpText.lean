/- count.Nat: Zero, Text of a number below a hundred millions. -/
import Derived.Test.YtiihalknffbjpaaGreatDoorWyOpt
import Derived.Shelf.Strconv.AppendInt10
namespace Go.Proofs.YtiihalknffbjpaaGreatDoor
set_option maxHeartbeats 4000000
set_option maxRecDepth 100000
namespace Bd
open Go.RowKit Go.Maps Go.Deep
theorem zmz(item:Nat)(is:Bool):∀(k v:Nat) (f:Nat->Bool),zrw (zh2 item is) k v f=if v<=item/\item<v+k then zrr (f item==is) else 0
 |0,v,f=>by rw[if_neg (by omega)];rfl
 |k+1,v,f=>by
  show zh2 item is v (f v)+zrw (zh2 item is) k (v+1) f=_;rw[zmz item is k (v+1) f];unfold zh2
  by_cases e:v=item
  ·subst e;rw[if_neg (by omega),if_pos (by omega)];simp
  ·have h0:zrr (decide (v=item)&&(f v==is))=0:=by rw[decide_eq_false e];rfl
   rw[h0]
   by_cases q:v<=item/\item<v+(k+1)
   ·rw[if_pos q,if_pos (by omega)];omega
   ·rw[if_neg q,if_neg (by omega)];rfl
theorem zsE{vars:Nat}{ns:List Nd}{h:Int}{is:Bool}{i:Nat}(hi:i<vars):zqM vars ns h is i=true↔∀f:Nat->Bool,(∀j,vars<=j->f j=false)->sem ns h f=true->f i=is:=by
 have hb:=ziF (zh2 i is) (vars-0) 0 (sem ns h) (fun _=>false);have hcs:∀f,zrw (zh2 i is) (vars-0) 0 f=zrr (f i==is):=fun f=>by rw[zmz,if_pos (by omega)]
 unfold zqM zbi;generalize zef (zh2 i is) (vars-0) 0 (sem ns h) (fun _=>false)=x at hb;cases hc:x.can with
 |false =>refine⟨fun _ f hf hs=>?_,fun _=>by simp⟩;exact absurd (hs.symm.trans (hb.no hc f (fun j hj=>hf j (by omega)))) (by simp)
 |true =>
  obtain⟨f',a1,a2,a3,-,a5⟩:=hb.yes hc;rw[hcs f'] at a3;simp only[Bool.not_true,Bool.false_or,decide_eq_true_eq];constructor
  ·intro h0 f hf hs;have h1:=a5 f (fun j hj=>hf j (by omega)) hs;rw[hcs f] at h1;have h2:0<zrr (f i==is):=by rcases h1 with h|⟨h,_⟩<;>omega
   unfold zrr at h2;cases q:(f i==is) with
   |true=>exact eq_of_beq q
   |false=>rw[q] at h2;simp at h2
  ·intro hall;have:=hall f' (fun j hj=>a1 j (by omega)) a2;rw[a3,this];unfold zrr;simp
section
variable {B p s b:Nat} {O:Nat->Prop} {vars:Nat} {room:Int} {st:List Nd × Int} {w:World}
theorem zrC(hsol:zfD B w p s b O vars room st)(hg:zcq vars st.1)(hl:st.1.length<=90000)(h24:vars<=24)(hh:zaP st.1 st.2=true) :
  zC 21 #[.pointer (some ⟨p,0,none⟩)] w fun e w'=>∃v,e=.returned (.tuple #[v,.nilIface])/\w'.ownsRow w.heap.size 3 1 v (zee vars st.1 st.2 true vars).length (Go.Proofs.YtiihalknffbjpaaGreatDoor.icells (zee vars st.1 st.2 true vars))/\zB w w':=by
 have HS:=zH (zj0 hsol hg hl h24 hh true);clear hsol hg hh;go_enter Tryz.func21,Tryz.ntmps21;go_wp2_with fail;refine HS.out.mono ?_;rintro e w1 ⟨v,rfl,hrow,hb⟩;have HR:Hid (_/\_):=⟨hrow,hb⟩;clear hrow hb HS;go_wp2;go_ret2;exact⟨v,rfl,HR.out.1,HR.out.2⟩
theorem zvs(hsol:zfD B w p s b O vars room st)(hg:zcq vars st.1)(hl:st.1.length<=90000)(h24:vars<=24)(hh:zaP st.1 st.2=true) :
  zC 22 #[.pointer (some ⟨p,0,none⟩)] w fun e w'=>∃v,e=.returned (.tuple #[v,.nilIface])/\w'.ownsRow w.heap.size 3 1 v (zee vars st.1 st.2 false vars).length (Go.Proofs.YtiihalknffbjpaaGreatDoor.icells (zee vars st.1 st.2 false vars))/\zB w w':=by
 have HS:=zH (zj0 hsol hg hl h24 hh false);clear hsol hg hh;go_enter Tryz.func22,Tryz.ntmps22;go_wp2_with fail;refine HS.out.mono ?_;rintro e w1 ⟨v,rfl,hrow,hb⟩;have HR:Hid (_/\_):=⟨hrow,hb⟩;clear hrow hb HS;go_wp2;go_ret2;exact⟨v,rfl,HR.out.1,HR.out.2⟩
end
end Bd
namespace Bd
open Go.RowKit Go.Maps Num
section
variable {B s b dk:Nat} {O:Nat->Prop} {vars:Nat} {room:Int} {ns:List Nd}
theorem zhS(hl:ns.length<=90000)(hv:vars<=24)(h:Int)(L:List (Int × NV))(w:World)(hS:zag B w s b O vars room ns)(hD:zbW w dk vars ns L)(hh:zaP ns h=true)(ht:zaa ns h=24) :
  zC 165 #[.pointer (some ⟨s,0,none⟩),.int .i64 h,.map (some dk)] w (zdH dk vars ns (zbF vars ns h) w):=by
 have hi:=zbg hh (by omega);have hb1:=below_new w (.cells #[.slice none 0 0] 42);have c0:=(hS.new hb1).c0;have HG:=zlr (hS.new hb1) h hi hl;rw[show decide (zaa ns h≠24)=false by simp[ht],show zas ns h=⟨0,0,0⟩ by unfold zas;rw[if_pos ht]] at HG;unfold Nd.val at HG;have HGT:=zH HG;have hbe:=zpt (vars:=vars) hh ht hv;have hdl:=hD.lt;have bxl:w.heap.size<(w.alloc (.cells #[.slice none 0 0] 42)).heap.size:=by simp
 have bc:(w.alloc (.cells #[.slice none 0 0] 42)).cell? ⟨w.heap.size,0,none⟩=some (.slice none 0 0):=by simp
 have bf:(w.alloc (.cells #[.slice none 0 0] 42)).frozen? ⟨w.heap.size,0,none⟩=false:=by simp
 have BO:=zH (zix w);have HB1:=zH hb1;have HD:=zH hD;have HBE:=zH hbe;obtain⟨hi0,hi1⟩:=hi;clear HG hS hD hh ht hb1 hbe;go_enter Tryz.func165,Tryz.ntmps165;go_wp2_with fail;refine HGT.out.mono ?_;rintro e w2 ⟨rfl,hb2⟩;generalize (w.alloc (.cells #[.slice none 0 0] 42))=W1 at *;have hb3:=hb2.alloc hb2.size (.cells #[.int .i64 0,.int .i64 0,.int .i64 0] 176);have HOF:=zH (zxv h (w2.alloc (.cells #[.int .i64 0,.int .i64 0,.int .i64 0] 176)) hi0 hi1);have HB3:=zH hb3;clear hb2 hb3 HGT c0;go_wp2_with fail;refine HOF.out.mono ?_;rintro e w4 ⟨v4,rfl,ds4,hdg,hnm,hvl,hb4⟩;have hb5:=zT HB3.out hb4;have hnat:=zir hdg hnm hvl;rw[<-HBE.out] at hnat;obtain⟨a4,c4,e4,-⟩:=id hdg;subst e4;have bc4:=(hb5.cell (p:=⟨w.heap.size,0,none⟩) bxl).trans bc;have bf4:=(hb5.frozen (p:=⟨w.heap.size,0,none⟩) bxl).trans bf;have hcs:(w4.setCell ⟨w.heap.size,0,none⟩ (.slice a4 ds4.length c4)).cell? ⟨w.heap.size,0,none⟩=some (.slice a4 ds4.length c4):=World.cell?_setCell_same _ _ _ bc4;have hno:∀o n,w4.cell? ⟨w.heap.size,o,none⟩≠some (.int .u64 n):=fun o n=>by
  rw[hb5.cell (p:=⟨w.heap.size,o,none⟩) bxl];exact BO.out o n
 have hb6:zB w w4:=zT HB1.out hb5;have hne:w.heap.size≠dk:=by omega
 have hk:zah (fun j=>j=dk) w (w4.setCell ⟨w.heap.size,0,none⟩ (.slice a4 ds4.length c4)):=(zah.of_below hb6 _).andThen (zah.setCell (S:=fun j=>j=w.heap.size) _ _ _ rfl) (fun i hi hlt=>by omega);have HFIN:Hid (zdH dk vars ns (zbF vars ns h) w (.returned (.agg #[.slice a4 ds4.length c4])) (w4.setCell ⟨w.heap.size,0,none⟩ (.slice a4 ds4.length c4))):=⟨_,L,rfl,hnat.box hno _,(HD.out.new hb6).box hno hne _,hk⟩;clear hdg hnm hvl hnat hno hk hb4 hb5 hb6 HOF HB3 HB1 HD BO HBE bc bf;go_wp2;refine bodyPost_ret (v:=.agg #[.slice a4 ds4.length c4]) (by simp[results,Tryz.results165,go_sem,hcs]) rfl HFIN.out
theorem zk3(hl:ns.length<=90000)(L:List (Int × NV))(w:World)(hS:zag B w s b O vars room ns)(hD:zbW w dk vars ns L)(p:Int × NV)(hp:p∈L)(hh:zaP ns p.1=true) :
  zC 165 #[.pointer (some ⟨s,0,none⟩),.int .i64 p.1,.map (some dk)] w (zdH dk vars ns (zbF vars ns p.1) w):=by
 have hi:=zbg hh (by omega);have ht:=hD.keys p hp;have hnat:=hD.nums p hp;have hb1:=below_new w (.cells #[.slice none 0 0] 42);have c0:=(hS.new hb1).c0;have HG:=zlr (hS.new hb1) p.1 hi hl;rw[show decide (zaa ns p.1≠24)=true by simp[ht]] at HG;unfold Nd.val at HG;have HGT:=zH HG;have HL:Hid (∀W,zB w W->(Instr.lookup 162 (.map (some dk)) (.int .i64 p.1) true).run Tryz.prog W=.ok (.tuple #[.agg #[.slice p.2.a p.2.n p.2.c],.bool true]) W):=fun W hW=>by
  obtain⟨D,hDm,hR⟩:=(hD.new hW).hmap;exact zkF hDm hR hp
 have hdl:=hD.lt;have bxl:w.heap.size<(w.alloc (.cells #[.slice none 0 0] 42)).heap.size:=by simp
 have bc:(w.alloc (.cells #[.slice none 0 0] 42)).cell? ⟨w.heap.size,0,none⟩=some (.slice none 0 0):=by simp
 have bf:(w.alloc (.cells #[.slice none 0 0] 42)).frozen? ⟨w.heap.size,0,none⟩=false:=by simp
 have BO:=zH (zix w);have HB1:=zH hb1;have HD:=zH hD;have HN:Hid (zbj w (.agg #[.slice p.2.a p.2.n p.2.c]) (zbF vars ns p.1)):=hnat;clear HG hS hD hh ht hb1 hnat hp;generalize p.2.a=xa at *;generalize p.2.n=xn at *;generalize p.2.c=xc at *;generalize p.1=h at *;generalize zas ns h=gn at *;generalize zbF vars ns h=m at *;obtain⟨gv,gl,gh⟩:=gn;simp only at HGT;go_enter Tryz.func165,Tryz.ntmps165;go_wp2_with fail;refine HGT.out.mono ?_;rintro e w2 ⟨rfl,hb2⟩;generalize (w.alloc (.cells #[.slice none 0 0] 42))=W1 at *;have hb3:=hb2.alloc hb2.size (.cells #[.int .i64 gv,.int .i64 gl,.int .i64 gh] 176);have hb4:=zT HB1.out hb3;have hrun:=HL.out _ hb4;have hb5:=hb3.alloc hb3.size (.cells #[.slice xa xn xc] 42);have bc4:=(hb5.cell (p:=⟨w.heap.size,0,none⟩) bxl).trans bc;have bf4:=(hb5.frozen (p:=⟨w.heap.size,0,none⟩) bxl).trans bf;have hno:∀o n,((w2.alloc (.cells #[.int .i64 gv,.int .i64 gl,.int .i64 gh] 176)).alloc (.cells #[.slice xa xn xc] 42)).cell? ⟨w.heap.size,o,none⟩≠some (.int .u64 n):=fun o n=>by
  rw[hb5.cell (p:=⟨w.heap.size,o,none⟩) bxl];exact BO.out o n
 have hb6:zB w ((w2.alloc (.cells #[.int .i64 gv,.int .i64 gl,.int .i64 gh] 176)).alloc (.cells #[.slice xa xn xc] 42)):=zT HB1.out hb5;have hcs:(((w2.alloc (.cells #[.int .i64 gv,.int .i64 gl,.int .i64 gh] 176)).alloc (.cells #[.slice xa xn xc] 42)).setCell ⟨w.heap.size,0,none⟩ (.slice xa xn xc)).cell? ⟨w.heap.size,0,none⟩=some (.slice xa xn xc):=World.cell?_setCell_same _ _ _ bc4;have hne:w.heap.size≠dk:=by omega
 have hk:zah (fun j=>j=dk) w (((w2.alloc (.cells #[.int .i64 gv,.int .i64 gl,.int .i64 gh] 176)).alloc (.cells #[.slice xa xn xc] 42)).setCell ⟨w.heap.size,0,none⟩ (.slice xa xn xc)):=(zah.of_below hb6 _).andThen (zah.setCell (S:=fun j=>j=w.heap.size) _ _ _ rfl) (fun i hi hlt=>by omega);have HFIN:Hid (zdH dk vars ns m w (.returned (.agg #[.slice xa xn xc])) (((w2.alloc (.cells #[.int .i64 gv,.int .i64 gl,.int .i64 gh] 176)).alloc (.cells #[.slice xa xn xc] 42)).setCell ⟨w.heap.size,0,none⟩ (.slice xa xn xc))):=⟨_,L,rfl,(HN.out.new hb6).box hno _,(HD.out.new hb6).box hno hne _,hk⟩;clear hb2 hb3 hb4 hb5 hb6 hno hk HGT HL HB1 HD HN BO c0 bc bf;go_wp2;refine bodyPost_ret (v:=.agg #[.slice xa xn xc]) (by simp[results,Tryz.results165,go_sem,hcs]) rfl HFIN.out
end
end Bd
namespace Bd
open Go.RowKit Go.Maps Num
section
variable {w w':World} {dk vars:Nat} {ns:List Nd} {L:List (Int × NV)}
theorem zrO(hD:zbW w dk vars ns L){a:Int}(ha:I64 a)(ht:zaa ns a≠24)(x:NV)(hx:zbj w x.val (zbF vars ns a))(hl:ns.length<=90000) :
  ∃w' L',(Instr.mapUpdate 162 (.map (some dk)) (.int .i64 a) x.val).run Tryz.prog w=.ok () w'/\zbW w' dk vars ns L'/\zah (fun j=>j=dk) w w':=by
 have hlen:=hD.len;obtain⟨D,hDm,hR⟩:=hD.hmap;obtain⟨w',hrun,h1,h2⟩:=hDm.update zwk Tryz.underlying162 (by unfold maxLen;omega) (zvf ha) (ziP x);have hk:zah (fun k=>k=dk) w w':=zah.of_grown h2 (fun i h=>by cases h;rfl);have hno:∀b o n,b=dk->w.cell? ⟨b,o,Option.none⟩≠some (.int .u64 n):=fun b o n e=>hD.no b o n e
 by_cases hm:a∈L.map Prod.fst
 ·have hR':zw8 (D.put (.int .i64 a) x.dat) (L.map fun q=>if q.1=a then (q.1,x) else q):=Rep.put_over hR (fun a b _ _ e=>by injection e) (fun _=>trivial) x hm;refine⟨w',_,hrun,⟨⟨_,hR'.size▸zaN h1,hR'⟩,fun p hp=>?_,fun p hp=>?_⟩,hk⟩
  ·obtain⟨q,hq,rfl⟩:=List.mem_map.1 hp;split
   ·exact hD.keys q hq
   ·exact hD.keys q hq
  ·obtain⟨q,hq,rfl⟩:=List.mem_map.1 hp;split
   ·rename_i e;show zbj w' x.val (zbF vars ns q.1);rw[e];exact hx.kept hk hno
   ·exact(hD.nums q hq).kept hk hno
 ·have hR':zw8 (D.put (.int .i64 a) x.dat) (L++[(a,x)]):=Rep.put hR (fun a b _ _ e=>by injection e) (fun _=>trivial) ha hm x;refine⟨w',_,hrun,⟨⟨_,hR'.size▸zaN h1,hR'⟩,fun p hp=>?_,fun p hp=>?_⟩,hk⟩
  ·rcases List.mem_append.1 hp with h|h
   ·exact hD.keys p h
   ·rw[List.mem_singleton] at h;subst h;exact ht
  ·rcases List.mem_append.1 hp with h|h
   ·exact(hD.nums p h).kept hk hno
   ·rw[List.mem_singleton] at h;subst h;exact hx.kept hk hno
end
structure zfw(w:World)(bx:Nat):Prop where
 lt:bx<w.heap.size
 c:w.cell? ⟨bx,0,none⟩=some (.slice none 0 0)
 f:w.frozen? ⟨bx,0,none⟩=false
 no:∀o n,w.cell? ⟨bx,o,none⟩≠some (.int .u64 n)
theorem zfw.kept{S:Nat->Prop}{w w':World}{bx:Nat}(h:zfw w bx)(hk:zah S w w')(hn:¬S bx):zfw w' bx :=
 ⟨Nat.lt_of_lt_of_le h.lt hk.size,(hk.cell (a:=⟨bx,0,none⟩) h.lt hn).trans h.c,(hk.frozen (a:=⟨bx,0,none⟩) h.lt hn).trans h.f,fun o n=>by rw[hk.cell (a:=⟨bx,o,none⟩) h.lt hn];exact h.no o n⟩
theorem zfw.new{w w':World}{bx:Nat}(h:zfw w bx)(hb:zB w w'):zfw w' bx:=h.kept (zah.of_below hb (fun _=>False)) (fun h=>h)
theorem zdP(w:World):zfw (w.alloc (.cells #[.slice none 0 0] 42)) w.heap.size:=⟨by simp,by simp,by simp,zix w⟩
structure CS(B s b dk:Nat)(O:Nat->Prop)(vars:Nat)(room:Int)(ns:List Nd)(W0 w:World)(nb bx:Nat)(gv gl gh:Int)(L:List (Int × NV)):Prop where
 space:zag B w s b O vars room ns
 done:zbW w dk vars ns L
 tri:Tri w nb gv gl gh
 box:zfw w bx
 kept:zah (fun j=>j=dk) W0 w
section
variable {B s b dk:Nat} {O:Nat->Prop} {vars:Nat} {room:Int} {ns:List Nd} {W0 w w':World} {nb bx:Nat} {gv gl gh:Int} {L:List (Int × NV)}
theorem CS.new(h:CS B s b dk O vars room ns W0 w nb bx gv gl gh L)(hb:zB w w'):CS B s b dk O vars room ns W0 w' nb bx gv gl gh L :=
 ⟨h.space.new hb,h.done.new hb,h.tri.new hb,h.box.new hb,h.kept.trans (zah.of_below hb _)⟩
theorem CS.ways{d:Nat}(hW:zmg B s b dk O vars room ns d)(ho:¬O dk)(hs:s≠dk)(hn:nb≠dk)(hx:bx≠dk)(h:CS B s b dk O vars room ns W0 w nb bx gv gl gh L)(g:Int)(v:Nat)(hh:zaP ns g=true)(hd:24<=zaa ns g+d)(hv:v<=zcX vars ns g) :
  zC 78 #[.pointer (some ⟨s,0,none⟩),.int .i64 g,.int .i64 v,.map (some dk)] w fun e w'=>∃r L',e=.returned r/\zbj w' r (zcF vars ns g v)/\CS B s b dk O vars room ns W0 w' nb bx gv gl gh L'/\zah (fun j=>j=dk) w w':=by
 refine(hW g v L w h.space h.done hh hd hv).mono ?_;rintro e w2 ⟨r,L',he,hr,hD,hk⟩;exact⟨r,L',he,hr,⟨h.space.kept hk (fun j hj e=>ho (e▸hj)) hs,hD,h.tri.kept hk hn,h.box.kept hk hx,h.kept.trans hk⟩,hk⟩
theorem CS.add(h:CS B s b dk O vars room ns W0 w nb bx gv gl gh L){r1 r2:Value}{m1 m2:Nat}(h1:zbj w r1 m1)(h2:zbj w r2 m2)(l1:m1<=100000000)(l2:m2<=100000000) :
  zC 228 #[r1,r2] w fun e w'=>∃a n c,e=.returned (.agg #[.slice a n c])/\zbj w' (.agg #[.slice a n c]) (m1+m2)/\CS B s b dk O vars room ns W0 w' nb bx gv gl gh L/\zB w w':=by
 obtain⟨s1,d1,rfl,g1,n1,v1,k1⟩:=h1.open l1;obtain⟨s2,d2,rfl,g2,n2,v2,k2⟩:=h2.open l2;refine(zvA s1 s2 d1 d2 w g1 g2 n1.small n2.small (by omega) (by omega)).mono ?_;rintro e w2 ⟨s3,he,d3,g3,n3,v3,-,hb⟩;have hn:=zir g3 n3 v3;rw[v1,v2] at hn;obtain⟨a,c,e3,-⟩:=id g3;subst e3;exact⟨a,_,c,he,hn,h.new hb,hb⟩
end
end Bd
namespace Bd
open Go.RowKit Go.Maps Num
section
variable {B s b dk:Nat} {O:Nat->Prop} {vars:Nat} {room:Int} {ns:List Nd} {W0 w w':World} {nb bx:Nat} {gv gl gh:Int} {L:List (Int × NV)}
def zjB(B s b dk:Nat)(O:Nat->Prop)(vars:Nat)(room:Int)(ns:List Nd)(W0:World)(nb bx:Nat)(gv gl gh:Int)(m:Nat)(pv:Value)(wx:World):Prop :=
 ∃bx2 a n c L3,pv=.pointer (some ⟨bx2,0,none⟩)/\wx.cell? ⟨bx2,0,none⟩=some (.slice a n c)/\bx2<wx.heap.size/\bx2≠dk/\bx2≠bx/\zbj wx (.agg #[.slice a n c]) m/\CS B s b dk O vars room ns W0 wx nb bx gv gl gh L3
theorem CS.sum(h:CS B s b dk O vars room ns W0 w nb bx gv gl gh L){bx2:Nat}(hb:zfw w bx2)(h0:W0.heap.size<=bx2)(hO:∀k,O k->k<W0.heap.size)(hs:s<W0.heap.size)(hd:dk<W0.heap.size)(hn:bx2≠nb)(hx:bx2≠bx){a:Option Addr}{n c m:Nat}(hm:zbj w (.agg #[.slice a n c]) m) :
  zjB B s b dk O vars room ns W0 nb bx gv gl gh m (.pointer (some ⟨bx2,0,none⟩)) (w.setCell ⟨bx2,0,none⟩ (.slice a n c)):=by
 have hk:zah (fun j=>j=bx2) w (w.setCell ⟨bx2,0,none⟩ (.slice a n c)):=zah.setCell _ _ _ rfl;refine⟨bx2,a,n,c,L,rfl,World.cell?_setCell_same _ _ _ hb.c,Nat.lt_of_lt_of_le hb.lt hk.size,by omega,hx,hm.box hb.no _,⟨h.space.kept hk (fun j hj e=>by have:=hO j hj;omega) (by omega),h.done.box hb.no (by omega) _,h.tri.kept hk (fun e=>hn e.symm),h.box.kept hk (fun e=>hx e.symm),h.kept.andThen hk (fun i hi hlt=>by omega)⟩⟩
theorem CS.sum_new(h:CS B s b dk O vars room ns W0 w nb bx gv gl gh L)(hd:dk<w.heap.size){a:Option Addr}{n c m:Nat}(hm:zbj w (.agg #[.slice a n c]) m) :
  zjB B s b dk O vars room ns W0 nb bx gv gl gh m (.pointer (some ⟨w.heap.size,0,none⟩)) (w.alloc (.cells #[.slice a n c] 42)) :=
 ⟨w.heap.size,a,n,c,L,rfl,by simp,by simp,by omega,by have:=h.box.lt;omega,hm.new (below_new _ _),h.new (below_new _ _)⟩
theorem zjB.tri3{m:Nat}{pv:Value}(h:zjB B s b dk O vars room ns W0 nb bx gv gl gh m pv w):w.cell? ⟨nb,0,none⟩=some (.int .i64 gv)/\w.cell? ⟨nb,1,none⟩=some (.int .i64 gl)/\w.cell? ⟨nb,2,none⟩=some (.int .i64 gh):=by
 obtain⟨_,_,_,_,_,-,-,-,-,-,-,hc⟩:=h;exact⟨hc.tri.c0,hc.tri.c1,hc.tri.c2⟩
theorem zk4(hg:zcq vars ns)(hl:ns.length<=90000)(hv:vars<=24)(ho:¬O dk)(hs:s≠dk){d:Nat}(hW:zmg B s b dk O vars room ns d)(h:Int)(L:List (Int × NV))(w:World)(hS:zag B w s b O vars room ns)(hD:zbW w dk vars ns L)(hh:zaP ns h=true)(ht:zaa ns h≠24)(hd:24<=zaa ns h+((d+1:Nat):Int))(hnk:h∉L.map Prod.fst) :
  zC 165 #[.pointer (some ⟨s,0,none⟩),.int .i64 h,.map (some dk)] w (zdH dk vars ns (zbF vars ns h) w):=by
 have hi:=zbg hh (by omega);have hb1:=below_new w (.cells #[.slice none 0 0] 42);have c0:=(hS.new hb1).c0;have HG:=zlr (hS.new hb1) h hi hl;have h0:=(zam hg.ranked h).1;have htv:=zd0 hg ht;have ht24:=zhv hg.ranked ht;obtain⟨k1,k2,k3,k4⟩:=zlS hg.ranked ht;have hsum:=zot hg ht;have hgv:(zas ns h).v=zaa ns h:=by rw[zfA ht];exact(zbq ht).2.2.1.symm
 have hgn:=zfA ht;rw[show decide (zaa ns h≠24)=true by simp[ht]] at HG;unfold Nd.val at HG;rw[<-hgn] at k1 k2 k3 k4 hsum;have HL:Hid (∀W,zB w W->(Instr.lookup 162 (.map (some dk)) (.int .i64 h) true).run Tryz.prog W=.ok (.tuple #[.agg #[.slice none 0 0],.bool false]) W):=fun W hW=>by
  obtain⟨D,hDm,hR⟩:=(hD.new hW).hmap;exact zoa hDm hR hi hnk
 obtain⟨t,et⟩:∃t:Nat,zaa ns h=(t:Int):=⟨(zaa ns h).toNat,by omega⟩;have hPUT:Hid (∀W L' x,zbW W dk vars ns L'->zbj W (NV.val x) (zbF vars ns h)->∃w' L'',(Instr.mapUpdate 162 (.map (some dk)) (.int .i64 h) x.val).run Tryz.prog W=.ok () w'/\zbW w' dk vars ns L''/\zah (fun j=>j=dk) W w'):=fun W L' x h1 h2=>zrO h1 hi ht x h2 hl;rw[et] at hgv htv ht24 k1 k3 hsum hd;rw[Int.toNat_natCast] at hsum;generalize zas ns h=gn at *;obtain⟨gv,gl,gh⟩:=gn;simp only at hgv k1 k2 k3 k4 hsum HG;subst hgv;have tl:t+1<=zcX vars ns gl:=by unfold zcX;omega
 have th:t+1<=zcX vars ns gh:=by unfold zcX;omega
 have HW1:Hid (∀X L' nb bx,nb≠dk->bx≠dk->CS B s b dk O vars room ns w X nb bx (t:Int) gl gh L'->zC 78 #[.pointer (some ⟨s,0,none⟩),.int .i64 gl,.int .i64 ((t:Int)+1),.map (some dk)] X fun e w'=>∃r L',e=.returned r/\zbj w' r (zcF vars ns gl (t+1))/\CS B s b dk O vars room ns w w' nb bx (t:Int) gl gh L'/\zah (fun j=>j=dk) X w'):=fun X L' nb bx h1 h2 hc =>
  hc.ways hW ho hs h1 h2 gl (t+1) k2 (by omega) tl
 have HW2:Hid (∀X L' nb bx,nb≠dk->bx≠dk->CS B s b dk O vars room ns w X nb bx (t:Int) gl gh L'->zC 78 #[.pointer (some ⟨s,0,none⟩),.int .i64 gh,.int .i64 ((t:Int)+1),.map (some dk)] X fun e w'=>∃r L',e=.returned r/\zbj w' r (zcF vars ns gh (t+1))/\CS B s b dk O vars room ns w w' nb bx (t:Int) gl gh L'/\zah (fun j=>j=dk) X w'):=fun X L' nb bx h1 h2 hc =>
  hc.ways hW ho hs h1 h2 gh (t+1) k4 (by omega) th
 have l1:zcF vars ns gl (t+1)<=100000000:=by have:=zlB vars ns gl (t+1) hv;omega
 have l2:zcF vars ns gh (t+1)<=100000000:=by have:=zlB vars ns gh (t+1) hv;omega
 have hOw:∀k,O k->k<w.heap.size:=fun k hk=>(hS.own k hk).2;have hsl:=hS.slt;have hdl:=hD.lt;have HGT:=zH HG;have HS:=zH hS;have HD:=zH hD;have HB1:=zH hb1;have HSUM:=zH hsum;have HOW:=zH hOw;have BX:=zH (zdP w);have hw1:IntKind.i64.wrap ((t:Int)+1)=(t:Int)+1:=IntWalk.i64_in _ ⟨by omega,by omega⟩;have hw2:wrap64 ((t:Int)+1)=(t:Int)+1:=by unfold wrap64;omega
 clear HG hS hD hh ht hb1 hsum hOw hW hg k1 k2 k3 k4 tl th hnk hgn et;generalize zbF vars ns h=m at *;generalize zcF vars ns gl (t+1)=m1 at *;generalize zcF vars ns gh (t+1)=m2 at *;have bxl:=BX.out.lt;go_enter Tryz.func165,Tryz.ntmps165;go_wp2_with fail;refine HGT.out.mono ?_;rintro e w2 ⟨rfl,hb2⟩;generalize (w.alloc (.cells #[.slice none 0 0] 42))=W1 at *;have hb3:=hb2.alloc hb2.size (.cells #[.int .i64 t,.int .i64 gl,.int .i64 gh] 176);have hb4:=zT HB1.out hb3;have hrun:=HL.out _ hb4;have hs2:=hb2.size;have hb5:=below_new (w2.alloc (.cells #[.int .i64 t,.int .i64 gl,.int .i64 gh] 176)) (.cells #[.slice none 0 0] 42);have cs:CS B s b dk O vars room ns w ((w2.alloc (.cells #[.int .i64 t,.int .i64 gl,.int .i64 gh] 176)).alloc (.cells #[.slice none 0 0] 42)) w2.heap.size w.heap.size (t:Int) gl gh L :=
  CS.new ⟨HS.out.new hb4,HD.out.new hb4,ziB w2 (t:Int) gl gh 176,BX.out.new hb3,zah.of_below hb4 _⟩ hb5
 have HCS:=zH cs;clear hb2 hb3 hb4 hb5 cs HGT HL HS HD BX c0;go_wp2_with fail;generalize ((w2.alloc (.cells #[.int .i64 t,.int .i64 gl,.int .i64 gh] 176)).alloc (.cells #[.slice none 0 0] 42))=W4 at *;have cs0:=HCS.out.new zF.drew;have csA:=(HCS.out.new (below_new W4 (.cells #[.slice none 0 0] 42))).new zF.drew;have nd1:w2.heap.size≠dk:=by omega
 have nd2:w.heap.size≠dk:=by omega
 have nn1:w.heap.size<w2.heap.size:=by omega
 have w4l:w2.heap.size<W4.heap.size:=HCS.out.tri.lt;have HNO:Hid (∀X L',CS B s b dk O vars room ns w X w2.heap.size w.heap.size (t:Int) gl gh L'->∀b o n,b=dk->X.cell? ⟨b,o,none⟩≠some (.int .u64 n)):=fun X L' hc b o n e=>hc.done.no b o n e;have nA:W4.heap.size≠dk:=by omega
 have nB:w.heap.size<=W4.heap.size:=by omega
 have nC:W4.heap.size≠w2.heap.size:=by omega
 have nD:W4.heap.size≠w.heap.size:=by omega
 clear hrun;go_cut [11] (fun pv wx=>zjB B s b dk O vars room ns w w2.heap.size w.heap.size (t:Int) gl gh m pv wx)
 case first =>
  go_region_held3 (fun X=>X.cell? ⟨w2.heap.size,0,none⟩=some (.int .i64 t)/\X.cell? ⟨w2.heap.size,1,none⟩=some (.int .i64 gl)/\X.cell? ⟨w2.heap.size,2,none⟩=some (.int .i64 gh))
   (first
    |exact⟨cs0.tri.c0,cs0.tri.c1,cs0.tri.c2⟩
    |exact⟨csA.tri.c0,csA.tri.c1,csA.tri.c2⟩
    |exact⟨cs2.tri.c0,cs2.tri.c1,cs2.tri.c2⟩
    |exact⟨(cs2.new (below_new _ _)).tri.c0,(cs2.new (below_new _ _)).tri.c1,(cs2.new (below_new _ _)).tri.c2⟩
    |exact⟨cs3.tri.c0,cs3.tri.c1,cs3.tri.c2⟩
    |exact⟨(cs3.new (below_new _ _)).tri.c0,(cs3.new (below_new _ _)).tri.c1,(cs3.new (below_new _ _)).tri.c2⟩
    |exact hsm.tri3
    |exact⟨cs7.tri.c0,cs7.tri.c1,cs7.tri.c2⟩
    | exact ⟨(cs7.new (below_new _ _)).tri.c0,(cs7.new (below_new _ _)).tri.c1,(cs7.new (below_new _ _)).tri.c2⟩)
   (first
    |(go_at_call 78;with_reducible refine(HW1.out _ _ _ _ nd1 nd2 cs0).mono ?_;rintro e w5 ⟨r1,L1,rfl,hn1,cs2,hk1⟩)
    |(go_at_call 78;with_reducible refine(HW1.out _ _ _ _ nd1 nd2 csA).mono ?_;rintro e w5 ⟨r1,L1,rfl,hn1,cs2,hk1⟩)
    |(go_at_call 78;with_reducible refine(HW2.out _ _ _ _ nd1 nd2 cs2).mono ?_;rintro e w6 ⟨r2,L2,rfl,hn2,cs3,hk2⟩;have hn3:=hn1.kept hk2 (HNO.out _ _ cs2))
    |(go_at_call 78;with_reducible refine(HW2.out _ _ _ _ nd1 nd2 (cs2.new (below_new _ _))).mono ?_;rintro e w6 ⟨r2,L2,rfl,hn2,cs3,hk2⟩;have hn3:=(hn1.new (below_new _ _)).kept hk2 (HNO.out _ _ (cs2.new (below_new _ _))))
    |(go_at_call 228;(with_reducible refine(cs3.add hn3 hn2 l1 l2).mono ?_);rintro e w7 ⟨a7,n7,c7,rfl,hn7,cs7,hb7⟩;rw[<-HSUM.out] at hn7;have hbx:zfw w7 W4.heap.size:=((((zdP W4).new zF.drew).kept hk1 nA).kept hk2 nA).new hb7;have hsm:=cs7.sum hbx nB HOW.out hsl hdl nC nD hn7;have q1:=hbx.c;have q2:=hbx.f)
    |(go_at_call 228;(with_reducible refine(cs3.add hn3 hn2 l1 l2).mono ?_);rintro e w7 ⟨a7,n7,c7,rfl,hn7,cs7,hb7⟩;rw[<-HSUM.out] at hn7;have z1:W4.heap.size<=w5.heap.size:=hk1.size;have hbx:zfw w7 w5.heap.size:=((zdP w5).kept hk2 (show w5.heap.size≠dk by omega)).new hb7;have hsm:=cs7.sum hbx (by omega) HOW.out hsl hdl (by omega) (by omega) hn7;have q1:=hbx.c;have q2:=hbx.f)
    |(go_at_call 228;(with_reducible refine((cs3.new (below_new _ _)).add (hn3.new (below_new _ _)) (hn2.new (below_new _ _)) l1 l2).mono ?_);rintro e w7 ⟨a7,n7,c7,rfl,hn7,cs7,hb7⟩;rw[<-HSUM.out] at hn7;have z1:W4.heap.size<=w5.heap.size:=hk1.size;have z2:w5.heap.size<=w6.heap.size:=hk2.size;have hbx:zfw w7 w6.heap.size:=(zdP w6).new hb7;have hsm:=cs7.sum hbx (by omega) HOW.out hsl hdl (by omega) (by omega) hn7;have q1:=hbx.c;have q2:=hbx.f)
    | (go_at_call 228;(with_reducible refine (cs3.add hn3 hn2 l1 l2).mono ?_);rintro e w7 ⟨a7,n7,c7,rfl,hn7,cs7,hb7⟩;rw [<- HSUM.out] at hn7;have hsm:=cs7.sum_new (Nat.lt_of_lt_of_le hdl cs7.kept.size) hn7))
  all_goals
   go_wp2_with fail;go_meet
   case rel=>exact hsm
 case rest =>obtain⟨bx2,a,n,c,L3,rfl,hc2,hl2,hd2,hx2,hn,cs3⟩:=hcut;obtain⟨w8,L4,hrun,hD8,hk8⟩:=hPUT.out wc L3 ⟨a,n,c⟩ cs3.done hn;unfold NV.val at hrun;have hc8:=(hk8.cell (a:=⟨bx2,0,none⟩) hl2 hd2).trans hc2;have hb8:=cs3.box.kept hk8 nd2;have bc8:=hb8.c;have bf8:=hb8.f;have hn8:=hn.kept hk8 (HNO.out _ _ cs3);have hcs:(w8.setCell ⟨w.heap.size,0,none⟩ (.slice a n c)).cell? ⟨w.heap.size,0,none⟩=some (.slice a n c):=World.cell?_setCell_same _ _ _ bc8;have hk:zah (fun j=>j=dk) w (w8.setCell ⟨w.heap.size,0,none⟩ (.slice a n c)):=(cs3.kept.trans hk8).andThen (zah.setCell (S:=fun j=>j=w.heap.size) _ _ _ rfl) (fun i hi hlt=>by omega);have HFIN:Hid (zdH dk vars ns m w (.returned (.agg #[.slice a n c])) (w8.setCell ⟨w.heap.size,0,none⟩ (.slice a n c))):=⟨_,L4,rfl,hn8.box hb8.no _,hD8.box hb8.no nd2 _,hk⟩;clear hn cs3 hD8 hk8 hb8 hn8 hk HW1 HW2 HNO hPUT HCS cs0 csA HOW;go_wp2;refine bodyPost_ret (v:=.agg #[.slice a n c]) (by simp[results,Tryz.results165,go_sem,hcs]) rfl HFIN.out
theorem zje(hg:zcq vars ns)(hl:ns.length<=90000)(hv:vars<=24)(ho:¬O dk)(hs:s≠dk):∀d,zoX B s b dk O vars room ns d
 |0=>fun h L w hS hD hh hd=>zhS hl hv h L w hS hD hh (by have:=(zam hg.ranked h).2;omega)
 |d+1=>fun h L w hS hD hh hd=>by
  by_cases ht:zaa ns h=24
  ·exact zhS hl hv h L w hS hD hh ht
  ·by_cases hk:h∈L.map Prod.fst
   ·obtain⟨p,hp,rfl⟩:=List.mem_map.1 hk;exact zk3 hl L w hS hD p hp hh
   ·exact zk4 hg hl hv ho hs (zka hg hl hv (zje hg hl hv ho hs d)) h L w hS hD hh ht hd hk
theorem zsY(hg:zcq vars ns)(hl:ns.length<=90000)(hv:vars<=24)(ho:¬O dk)(hs:s≠dk):zmg B s b dk O vars room ns 24:=zka hg hl hv (zje hg hl hv ho hs 24)
end
end Bd
namespace Bd
open Go.RowKit Go.Maps Num
section
variable {B s b:Nat} {O:Nat->Prop} {vars:Nat} {room:Int} {ns:List Nd}
theorem zqp(w:World)(hS:zag B w s b O vars room ns)(hg:zcq vars ns)(hl:ns.length<=90000)(hv:vars<=24)(h:Int)(hh:zaP ns h=true) :
  zC 18 #[.pointer (some ⟨s,0,none⟩),.int .i64 h] w fun e w'=>∃v,e=.returned (.tuple #[v,.nilIface])/\zbj w' v (zcF vars ns h 0)/\zB w w':=by
 have hi:=zbg hh (by omega);have hb1:=below_new w (.cells #[.slice none 0 0] 42);have s1:(w.alloc (.cells #[.slice none 0 0] 42)).heap.size=w.heap.size+1:=by simp
 have HP:=zgL (cp:=1) ((hS.new hb1).new (below_new (w.alloc (.cells #[.slice none 0 0] 42)) (.cells #[.int .i64 h] 3))) (by omega) (w.alloc (.cells #[.slice none 0 0] 42)).heap.size [h] (zxQ (w.alloc (.cells #[.slice none 0 0] 42)) h hi) (by simp) (fun y hy=>by rw[List.mem_singleton] at hy;subst hy;exact hh);rw[show [h].length=1 from rfl,s1] at HP;have HPR:=zH HP;have hb2:=hb1.alloc hb1.size (.cells #[.int .i64 h] 3);have s2:((w.alloc (.cells #[.slice none 0 0] 42)).alloc (.cells #[.int .i64 h] 3)).heap.size=w.heap.size+1+1:=by rw[World.size_alloc,s1]
 have hb3:=hb2.alloc hb2.size (.map #[] 0);have hown:=World.ownsMap_made ((w.alloc (.cells #[.slice none 0 0] 42)).alloc (.cells #[.int .i64 h] 3)) Tryz.prog 3 zwg;rw[s2] at hown;have hD:zbW (((w.alloc (.cells #[.slice none 0 0] 42)).alloc (.cells #[.int .i64 h] 3)).alloc (.map #[] 0)) (w.heap.size+1+1) vars ns []:=⟨⟨_,hown,Rep.empty⟩,(fun p hp=>by cases hp),(fun p hp=>by cases hp)⟩;have hslt:=hS.slt;have HWA:=zsY (B:=B) (s:=s) (b:=b) (dk:=w.heap.size+1+1) (O:=O) (vars:=vars) (room:=room) (ns:=ns) hg hl hv (fun ho=>by have:=(hS.own _ ho).2;omega) (by omega) h 0 [] _ (hS.new hb3) hD hh (by have:=(zam hg.ranked h).1;omega) (Nat.zero_le _);have HWY:Hid (zC 78 #[.pointer (some ⟨s,0,none⟩),.int .i64 h,.int .i64 0,.map (some (w.heap.size+1+1))] (((w.alloc (.cells #[.slice none 0 0] 42)).alloc (.cells #[.int .i64 h] 3)).alloc (.map #[] 0)) (zdH (w.heap.size+1+1) vars ns (zcF vars ns h 0) (((w.alloc (.cells #[.slice none 0 0] 42)).alloc (.cells #[.int .i64 h] 3)).alloc (.map #[] 0)))):=HWA;have HBX:Hid (zfw (((w.alloc (.cells #[.slice none 0 0] 42)).alloc (.cells #[.int .i64 h] 3)).alloc (.map #[] 0)) w.heap.size):=((zdP w).new (below_new _ _)).new (below_new _ _);have HB3:=zH hb3;have hmm:=@run_makeMap Tryz.prog;clear HP HWA hS hg hh hb1 hb2 hb3 hown hD;generalize zcF vars ns h 0=m at *;go_enter Tryz.func18,Tryz.ntmps18;go_wp2_with fail;refine HPR.out.mono ?_;rintro e w1 ⟨rfl,rfl⟩;clear HPR;go_wp2_with fail;refine HWY.out.mono ?_;rintro e w4 ⟨v4,L4,rfl,hn,hD4,hk⟩;generalize (((w.alloc (.cells #[.slice none 0 0] 42)).alloc (.cells #[.int .i64 h] 3)).alloc (.map #[] 0))=W3 at *;obtain⟨x,rfl,hx⟩:=hn;obtain⟨xa,xn,xc⟩:=x;have hn:zbj w4 (NV.val ⟨xa,xn,xc⟩) m:=⟨_,rfl,hx⟩;have hbx:=HBX.out.kept hk (show w.heap.size≠w.heap.size+1+1 by omega);have bc:=hbx.c;have bf:=hbx.f;have hcs:(w4.setCell ⟨w.heap.size,0,none⟩ (.slice xa xn xc)).cell? ⟨w.heap.size,0,none⟩=some (.slice xa xn xc):=World.cell?_setCell_same _ _ _ bc;have hb4:zB w (w4.setCell ⟨w.heap.size,0,none⟩ (.slice xa xn xc)):=(HB3.out.trans (hk.below HB3.out.size (fun j e=>by omega))).setCell zN _;have HFIN:Hid (∃v,Ending.returned (.tuple #[.agg #[.slice xa xn xc],.nilIface])=.returned (.tuple #[v,.nilIface])/\zbj (w4.setCell ⟨w.heap.size,0,none⟩ (.slice xa xn xc)) v m/\zB w (w4.setCell ⟨w.heap.size,0,none⟩ (.slice xa xn xc))):=⟨_,rfl,hn.box hbx.no _,hb4⟩;clear hn hx hD4 hk hbx hb4 HWY HBX HB3;unfold NV.val;go_wp2;refine bodyPost_ret (v:=.tuple #[.agg #[.slice xa xn xc],.nilIface]) (by simp[results,Tryz.results18,go_sem,hcs]) rfl HFIN.out
end
end Bd
namespace Go.Proofs
open Go.Shelf
def Tryz.laysM288_ren:Go.Shelf.Ren:=⟨fun|288=>167|283=>231|284=>232|285=>233|286=>234|129=>293|317=>292|318=>294|319=>295|320=>296|337=>328|338=>329|n=>n,fun|37=>163|53=>165|3=>3|4=>4|9=>9|171=>349|0=>0|173=>352|212=>416|51=>417|5=>5|20=>20|213=>418|46=>48|232=>468|233=>469|n=>n,fun|17=>4|18=>8|19=>9|n=>n⟩
theorem Tryz.laysM288:Go.Proofs.LaysM.n288 Tryz.prog Tryz.laysM288_ren:={
 zdx:=by kernel_rfl
 f129:=zK Tryz.func293 (by kernel_rfl)
 f283:=zK Tryz.func231 (by kernel_rfl)
 f284:=zK Tryz.func232 (by kernel_rfl)
 f285:=zK Tryz.func233 (by kernel_rfl)
 f286:=zK Tryz.func234 (by kernel_rfl)
 f288:=zK Tryz.func167 (by kernel_rfl)
 f317:=zK Tryz.func292 (by kernel_rfl)
 f318:=zK Tryz.func294 (by kernel_rfl)
 f319:=zK Tryz.func295 (by kernel_rfl)
 f320:=zK Tryz.func296 (by kernel_rfl)
 f337:=zK Tryz.func328 (by kernel_rfl)
 f338:=zK Tryz.func329 (by kernel_rfl)
 t0:=Tryz.underlying0
 a0:=Tryz.isAgg0
 z0:=Tryz.sizeOf0
 v0:=Tryz.zeroValue0
 t3:=Tryz.underlying3
 a3:=Tryz.isAgg3
 z3:=Tryz.sizeOf3
 v3:=Tryz.zeroValue3
 t4:=Tryz.underlying4
 a4:=Tryz.isAgg4
 z4:=Tryz.sizeOf4
 v4:=Tryz.zeroValue4
 t5:=Tryz.underlying5
 a5:=Tryz.isAgg5
 z5:=Tryz.sizeOf5
 v5:=Tryz.zeroValue5
 t9:=Tryz.underlying9
 a9:=Tryz.isAgg9
 z9:=Tryz.sizeOf9
 v9:=Tryz.zeroValue9
 t20:=Tryz.underlying20
 a20:=Tryz.isAgg20
 z20:=Tryz.sizeOf20
 v20:=Tryz.zeroValue20
 t37:=Tryz.underlying163
 a37:=Tryz.isAgg163
 z37:=Tryz.sizeOf163
 v37:=Tryz.zeroValue163
 t46:=Tryz.underlying48
 a46:=Tryz.isAgg48
 z46:=Tryz.sizeOf48
 v46:=Tryz.zeroValue48
 t51:=Tryz.underlying417
 a51:=Tryz.isAgg417
 z51:=Tryz.sizeOf417
 v51:=Tryz.zeroValue417
 t53:=Tryz.underlying165
 a53:=Tryz.isAgg165
 z53:=Tryz.sizeOf165
 v53:=Tryz.zeroValue165
 t171:=Tryz.underlying349
 a171:=Tryz.isAgg349
 z171:=Tryz.sizeOf349
 v171:=Tryz.zeroValue349
 t173:=Tryz.underlying352
 a173:=Tryz.isAgg352
 z173:=Tryz.sizeOf352
 v173:=Tryz.zeroValue352
 t212:=Tryz.underlying416
 a212:=Tryz.isAgg416
 z212:=Tryz.sizeOf416
 v212:=Tryz.zeroValue416
 t213:=Tryz.underlying418
 a213:=Tryz.isAgg418
 z213:=Tryz.sizeOf418
 t232:=Tryz.underlying468
 a232:=Tryz.isAgg468
 z232:=Tryz.sizeOf468
 v232:=Tryz.zeroValue468
 t233:=Tryz.underlying469
 a233:=Tryz.isAgg469
 z233:=Tryz.sizeOf469
 v233:=Tryz.zeroValue469
 g17:=by kernel_rfl
 g18:=by kernel_rfl
 g19:=by kernel_rfl
 i0:=by kernel_rfl
 i3:=by kernel_rfl
 i4:=by kernel_rfl
 i5:=by kernel_rfl
 i9:=by kernel_rfl
 i20:=by kernel_rfl
 i37:=by kernel_rfl
 i46:=by kernel_rfl
 i51:=by kernel_rfl
 i53:=by kernel_rfl
 i171:=by kernel_rfl
 i173:=by kernel_rfl
 i212:=by kernel_rfl
 i232:=by kernel_rfl
 i233:=by kernel_rfl
 m17:=by kernel_rfl
 m18:=by kernel_rfl
 m19:=by kernel_rfl }
open Go.RowKit Go.Sort Go.Lib in
theorem Tryz.internal_strconv_AppendUint_10(B n u:Nat)(hu64:u<18446744073709551616)(sv:Value)(xs:List Value)(w:World)(hown:w.ownsRow B 5 1 sv n xs)(hBw:B<=w.heap.size)(hlim:n+20<=140737488355328)(htab:Lib.TabIs Tryz.prog w "internal/strconv.uint64pow10" .u64 Lib.pow10Tab) :
  zC 167 #[sv,.int .u64 u,.int .i64 10] w fun e w'=>∃v',e=.returned v'/\w'.ownsRow B 5 1 v' (n+(Lib.decDigits u).length) (xs++Lib.byteCells (Lib.decDigits u))/\Below B w w'/\Lib.OthersKept 5 none w w':=Any.internal_strconv_AppendUint_10 Tryz.laysM288 B n u hu64 sv xs w hown hBw hlim htab
end Go.Proofs
namespace Bd
open Go.RowKit Num Go.Sort
theorem zbj.small{w:World}{v:Value}{m:Nat}(h:zbj w v m)(hm:m<=100000000) :
  (m=0/\∃a c,v=.agg #[.slice a 0 c])\/(m≠0/\∃b off c,v=.agg #[.slice (some ⟨b,off,none⟩) 1 c]/\b<w.heap.size/\w.cell? ⟨b,off,none⟩=some (.int .u64 m)):=by
 obtain⟨s,ds,rfl,⟨a,cap,rfl,hc,hi⟩,hN,hv,hl⟩:=h.open hm
 match ds,hl with
 |[],_=>exact .inl ⟨by rw[<-hv,zrt],a,cap,rfl⟩
 |[d],_ =>
  obtain⟨b,off,rfl,hb,hcell⟩:=hi 0 (by simp);have hd:val 1000000000 [d]=d:=by unfold val;simp[S,dig]
  have h0:=hN.last (by simp);have e:d=m:=by rw[<-hd];exact hv
  subst e;exact .inr ⟨h0,b,off,cap,rfl,hb,hcell⟩
theorem zt5{w:World}{v:Value}{m:Nat}(h:zbj w v m)(hm:m<=100000000):zR 38 #[v] w (.bool (decide (m=0))):=by
 rcases h.small hm with ⟨h0,a,c,rfl⟩|⟨h0,b,off,c,rfl,-,-⟩
 ·rw[decide_eq_true h0];clear h hm h0;have HB:Hid (zB w (w.alloc (.cells #[.slice a 0 c] 42))):=below_new w _;go_enter Tryz.func38,Tryz.ntmps38;go_wp2;go_ret;exact⟨by first|rfl|simp,HB.out⟩
 ·rw[decide_eq_false h0];clear h hm h0;have HB:Hid (zB w (w.alloc (.cells #[.slice (some ⟨b,off,none⟩) 1 c] 42))):=below_new w _;go_enter Tryz.func38,Tryz.ntmps38;go_wp2;go_ret;exact⟨by first|rfl|simp,HB.out⟩
theorem zs0(B u:Nat)(hu64:u<18446744073709551616)(w:World)(hBw:B<=w.heap.size)(htab:Lib.TabIs Tryz.prog w "internal/strconv.uint64pow10" .u64 Lib.pow10Tab) :
  zC 79 #[.slice none 0 0,.int .u64 u,.int .i64 10] w fun e w'=>∃v',e=.returned v'/\w'.ownsRow B 5 1 v' (Lib.decDigits u).length (Lib.byteCells (Lib.decDigits u))/\Below B w w':=by
 have H0:=Tryz.internal_strconv_AppendUint_10 B 0 u hu64 (.slice none 0 0) [] w (World.ownsRow_nil _ _ _ _) hBw (by omega) htab;have H:=zH H0;clear H0 htab;go_enter Tryz.func79,Tryz.ntmps79;go_wp2_with fail;refine H.out.mono ?_;rintro e w1 ⟨v',rfl,h1,h2,-⟩;have HF:Hid (w1.ownsRow B 5 1 v' (Lib.decDigits u).length (Lib.byteCells (Lib.decDigits u))/\Below B w w1):=by
  have:w1.ownsRow B 5 1 v' (Lib.decDigits u).length (Lib.byteCells (Lib.decDigits u)):=by simpa using h1
  exact⟨this,h2⟩
 clear h1 h2;go_wp2;go_ret;exact⟨v',rfl,HF.out⟩
theorem zoj{w:World}{base:Nat}{v:Value}{l:List UInt8}(h:w.ownsRow base 5 1 v l.length (Lib.byteCells l))(hl:l≠[]) :
  (convert 163 9 v).run Tryz.prog w=.ok (.string ⟨l.toArray⟩) w:=by
 rcases id h.2 with ⟨h1,h2⟩|⟨g,cap,cur,h1,hb,hg,h2,_⟩
 ·exact absurd (List.length_eq_zero_iff.1 h2) hl
 ·subst h1;refine run_convert_bytes_back (P:=Tryz.prog) w 163 9 5 ⟨g,0,none⟩ cap l Tryz.underlying163 Tryz.underlying5 Tryz.underlying9 (fun j hj=>?_);rw[Lib.add_plain,Nat.zero_add,h.cellAt j (by omega)];simp[Lib.byteCells,hj]
theorem zqn:Lib.decDigits 0=[48]:=by kernel_rfl
theorem zw6{w:World}{v:Value}{m:Nat}(h:zbj w v m)(hm:m<=100000000)(htab:Lib.TabIs Tryz.prog w "internal/strconv.uint64pow10" .u64 Lib.pow10Tab) :
  zR 19 #[v] w (.string ⟨(Lib.decDigits m).toArray⟩):=by
 rcases h.small hm with ⟨h0,a,c,rfl⟩|⟨h0,b,off,c,rfl,hb,hcell⟩
 ·have hb0:=below_new w (.cells #[.slice a 0 c] 42);have hz:=zt5 (h.new hb0) hm;rw[decide_eq_true h0] at hz;have HZ:=zH hz;have HB:=zH hb0;subst h0;rw[zqn];clear h hm hz hb0 htab;go_enter Tryz.func19,Tryz.ntmps19;go_wp2_with fail;refine HZ.out.mono ?_;rintro e w1 ⟨rfl,hb1⟩;have HB1:Hid (zB w w1):=zT HB.out hb1;clear hb1 HZ HB;go_wp2;go_ret;exact⟨rfl,HB1.out⟩
 ·have hb0:=below_new w (.cells #[.slice (some ⟨b,off,none⟩) 1 c] 42);have hz:=zt5 (h.new hb0) hm;rw[decide_eq_false h0] at hz;have HZ:=zH hz;have HB:=zH hb0;have c0:(w.alloc (.cells #[.slice (some ⟨b,off,none⟩) 1 c] 42)).cell? ⟨w.heap.size,0,none⟩=some (.slice (some ⟨b,off,none⟩) 1 c):=by simp
  have c1:=(hb0.cell (p:=⟨b,off,none⟩) hb).trans hcell;have hsz:(w.alloc (.cells #[.slice (some ⟨b,off,none⟩) 1 c] 42)).heap.size=w.heap.size+1:=World.size_alloc _ _;have hlt:b<(w.alloc (.cells #[.slice (some ⟨b,off,none⟩) 1 c] 42)).heap.size:=by omega
  have HT:Hid (∀W,zB w W->Lib.TabIs Tryz.prog W "internal/strconv.uint64pow10" .u64 Lib.pow10Tab):=fun W hW=>Lib.tabBelow_of_tabIs htab W hW;have hne:Lib.decDigits m≠[]:=fun h=>by
   have h1:=Lib.decDigits_length m;have h2:=Lib.nDigits_pos m;rw[h,List.length_nil] at h1;omega
  have HNE:=zH hne;clear h hz hb0 htab hcell hne;go_enter Tryz.func19,Tryz.ntmps19;go_upto_region 1 with fail;generalize w.alloc (.cells #[.slice (some ⟨b,off,none⟩) 1 c] 42)=W0 at *;go_wp2_with fail;refine HZ.out.mono ?_;rintro e w1 ⟨rfl,hb1⟩;have d0:w1.cell? ⟨w.heap.size,0,none⟩=some (.slice (some ⟨b,off,none⟩) 1 c):=(hb1.cell (p:=⟨w.heap.size,0,none⟩) (by show w.heap.size<_;omega)).trans c0;have d1:w1.cell? ⟨b,off,none⟩=some (.int .u64 m):=(hb1.cell (p:=⟨b,off,none⟩) hlt).trans c1;have hB1:zB w w1:=zT HB.out hb1;have HAP:=zH (zs0 w1.heap.size m (by omega) w1 zN (HT.out w1 hB1));have HB1:=zH hB1;clear hb1 HZ HB c0 c1 HT hB1;go_wp2_with fail;refine HAP.out.mono ?_;rintro e w2 ⟨v2,rfl,hrow,hb2⟩;have hcv:=zoj hrow HNE.out;have HB2:Hid (zB w w2):=zT HB1.out hb2;clear hb2 HAP HB1 d0 d1 hrow HNE;go_wp2_with fail;go_loopw [4,20] (fun o i wr=>o=v2/\i=.int .i64 0/\wr=w2) (fun _ _ _=>0)
  case atStart=>exact⟨rfl,rfl,rfl⟩
  case round =>obtain⟨rfl,rfl,rfl⟩:=hrel;go_wp2;go_ret;exact⟨rfl,HB2.out⟩
end Bd
end Go.Proofs.YtiihalknffbjpaaGreatDoor
