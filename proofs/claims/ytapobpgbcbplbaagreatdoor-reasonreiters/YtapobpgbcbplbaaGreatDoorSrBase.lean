/- A row of uints that is sorted in its place: what lies there, a swap. -/
import Derived.Test.YtapobpgbcbplbaaGreatDoorFmRSetP
namespace Go.Proofs.YtapobpgbcbplbaaGreatDoor
set_option maxHeartbeats 8000000
set_option maxRecDepth 100000
namespace Fm
open Go.RowKit Go.Maps Go.Proofs.YtapobpgbcbplbaaGreatDoor.Bd
def UArg(w:World)(v:Value)(l:List Nat):Prop:=∃a c,v=.slice a l.length c/\∀i,i<l.length->∃g,a=some ⟨g,0,none⟩/\g<w.heap.size/\w.cell? ⟨g,i,none⟩=some (.int .u64 (l.getD i 0:Nat))
theorem UArg.below{w w':World}{v:Value}{l:List Nat}(h:UArg w v l)(hb:zB w w'):UArg w' v l:=by
 obtain⟨a,c,e,h⟩:=h;refine⟨a,c,e,fun i hi=>?_⟩;obtain⟨g,h1,h2,h3⟩:=h i hi;exact⟨g,h1,Nat.lt_of_lt_of_le h2 hb.size,(hb.cell (p:=⟨g,i,none⟩) h2).trans h3⟩
theorem UArg.of_row{B:Nat}{w:World}{v:Value}{l:List Nat}(h:w.ownsRow B 68 1 v l.length (yy l)):UArg w v l:=by
 obtain⟨a,c,rfl⟩:=zoU h;refine⟨a,c,rfl,fun i hi=>?_⟩;obtain⟨g,rfl,hc⟩:=zkm h i hi;exact⟨g,rfl,(h.lt g rfl).2,hc⟩
theorem rising_eq:∀{l m:List Nat},l.Pairwise (·<·)->m.Pairwise (·<·)->(∀x,x∈l↔x∈m)->l=m
 |[],[],_,_,_=>rfl
 |[],b :: m,_,_,h=>by have:=(h b).2 (List.mem_cons_self ..);cases this
 |a :: l,[],_,_,h=>by have:=(h a).1 (List.mem_cons_self ..);cases this
 |a :: l,b :: m,h1,h2,h=>by
  rw[List.pairwise_cons] at h1 h2;have e:a=b:=by
   rcases List.mem_cons.1 ((h a).1 (List.mem_cons_self ..)) with e|e
   ·exact e
   ·rcases List.mem_cons.1 ((h b).2 (List.mem_cons_self ..)) with e2|e2
    ·exact e2.symm
    ·have:=h1.1 b e2;have:=h2.1 a e;omega
  subst e;rw [rising_eq h1.2 h2.2 (fun x=>by
   have hx:=h x;rw[List.mem_cons,List.mem_cons] at hx;constructor
   ·intro k;rcases hx.1 (.inr k) with e|e
    ·subst e;have:=h1.1 x k;omega
    ·exact e
   ·intro k;rcases hx.2 (.inr k) with e|e
    ·subst e;have:=h2.1 x k;omega
    ·exact e)]
end Fm
namespace Fm
open Go.RowKit Go.Maps Go.Proofs.YtapobpgbcbplbaaGreatDoor.Bd
theorem XN(a:Addr)(i:Nat):(a.add i).block=a.block:=by unfold Addr.add;split<;>rfl
def UIn(w:World)(v:Value)(l:List Nat):Prop:=∃a c,v=.slice a l.length c/\∀i,i<l.length->∃g:Addr,a=some g/\g.block<w.heap.size/\w.cell? (g.add i)=some (.int .u64 (l.getD i 0:Nat))
theorem UIn.below{w w':World}{v:Value}{l:List Nat}(h:UIn w v l)(hb:zB w w'):UIn w' v l:=by
 obtain⟨a,c,e,h⟩:=h;refine⟨a,c,e,fun i hi=>?_⟩;obtain⟨g,h1,h2,h3⟩:=h i hi;exact⟨g,h1,Nat.lt_of_lt_of_le h2 hb.size,(hb.cell (p:=g.add i) (by rw[XN];exact h2)).trans h3⟩
end Fm
namespace Fm
open Go.RowKit Go.Maps Go.Proofs.YtapobpgbcbplbaaGreatDoor.Bd
theorem zmv{vars:Nat}(hv6:vars<=7):zj (rr vars (-1)) .or<=31:=Nat.le_trans (zaA (show rr vars (-1)<=5 by unfold rr;omega) .or) (by decide)
theorem zor(w:World)(a:Int)(ia:Bd.I64 a):xG (w.alloc (.cells #[.int .i64 a] 3)) w.heap.size [a]:=by
 refine⟨by simp,fun i hi=>?_,fun x hx=>?_⟩
 ·simp at hi;subst hi;simp
 ·simp at hx;subst hx;assumption
def zbb(B s b:Nat)(O:Nat->Prop)(vars room:Nat)(l:List Nat)(w:World)(e:Ending)(w':World):Prop :=
 (∃h ns' O',e=.returned (.tuple #[.int .i64 h,.nilIface])/\qH B w' s b O' vars room ns'/\Mv O O' w w'/\ze ns' h=true/\(∀y,In ns' h y↔y∈l)/\zq vars ns'<=45*l.length/\∀x∈l,x<2^vars) \/
 ∃O',e=.returned (.tuple #[.int .i64 0,.iface 64 (.int .i64 2)])/\Mv O O' w w'/\∃x∈l,¬x<2^vars
section
variable {B s b:Nat} {O:Nat->Prop} {vars room:Nat} {ns0:List Nd} {w:World}
theorem ziW(h:qH B w s b O vars room ns0)(hv6:vars<=7)(l:List Nat)(a:Option Addr)(cap:Nat)(hx:∀i,i<l.length->∃g:Addr,a=some g/\g.block<w.heap.size/\w.cell? (g.add i)=some (.int .u64 (l.getD i 0:Nat))/\¬O g.block)(h64:∀x∈l,x<2^64)(hl:l.length<=40)(hn0:zq vars ns0=0)(hrm:2000<=room) :
  zC 21 #[.pointer (some ⟨s,0,none⟩),.slice a l.length cap] w (zbb B s b O vars room l w):=by
 have HX:=zH hx;have HST:=zH h;clear hx h;go_enter Tryz.func21,Tryz.ntmps21;go_wp2_with fail;go_loopw [6,13] (fun av i wr=>∃(k:Nat) (ns:List Nd) (O1:Nat->Prop) (hz:Int),k<=l.length/\i=.int .i64 k/\av=.int .i64 hz/\qH B wr s b O1 vars room ns/\Mv O O1 w wr/\ze ns hz=true/\(∀y,In ns hz y↔y∈l.take k)/\zq vars ns<=45*k/\∀x∈l.take k,x<2^vars)
  (fun _ i _=>l.length-(intOf i).toNat)
 case atStart=>exact⟨0,ns0,O,0,Nat.zero_le _,rfl,rfl,HST.out,Mv.refl _ _,ZX ns0,fun y=>⟨fun hy=>(QK y hy).elim,fun hy=>by simp at hy⟩,by omega,fun x hx=>by simp at hx⟩
 case round =>
  obtain⟨k,ns,O1,hz,hk,rfl,rfl,hF,hM,hh,hm,hc,hr⟩:=hrel;clear HST
  by_cases hlt:k<l.length
  ·obtain⟨g,rfl,gl,gc,go⟩:=HX.out k hlt;have q0:=(hM.cell (a:=g.add k) (by rw[XN];exact gl) (by rw[XN];exact go)).trans gc;have i1:(k:Int)<(l.length:Int):=by omega
   have eT:l.take (k+1)=l.take k++[l.getD k 0]:=by
    rw[List.take_succ_eq_append_getElem hlt];simp[List.getD_eq_getElem?_getD,List.getElem?_eq_getElem hlt]
   have hmemx:l.getD k 0∈l:=by rw[List.getD_eq_getElem?_getD,List.getElem?_eq_getElem hlt];exact List.getElem_mem hlt
   have hx64:=h64 _ hmemx;have HT:=zH eT;have HMX:=zH hmemx;clear gc go gl eT hmemx;generalize l.getD k 0=x at *
   by_cases hxv:x<2^vars
   ·have HO:=zH (zlc hF x hxv (by omega));have HMv:=zH hM;have HR:=zH hr;have HM:=zH hm;have HG:=zH hF.good.ranked;clear hF hM hr hm;go_wp2_with fail;refine HO.out.mono ?_;rintro e w1 ⟨h1,ns1,O2,rfl,hF1,mv1,x1,hb1,m1,c1⟩;clear HO;have hco:=zmv hv6;have HOR:=zH (K0 hF1 (x1.has _ hh) hb1 (by omega));go_wp2_with fail;refine HOR.out.mono ?_;rintro e w2 ⟨h2,ns2,O3,rfl,hF2,mv2,x2,hb2,m2,c2⟩;clear HOR;have hfl:=hF2.len;have hb3:=Bd.zf w2 (.cells #[.int .i64 h2] 3);have HFR:=zH (zi0 (cp:=1) (hF2.new hb3) w2.heap.size h2 (zor w2 h2 (yO hb2 (by omega))) hb2);have hmv3:Mv O O3 w (w2.alloc (.cells #[.int .i64 h2] 3)):=((HMv.out.trans mv1).trans mv2).trans (Mv.of_below hb3);have hin:∀y,In ns2 h2 y↔y∈l.take (k+1):=fun y=>by
     rw[m2 y,HT.out,List.mem_append,List.mem_singleton];show (In ns1 hz y\/In ns1 h1 y)↔_;rw[m1 y,qV HG.out x1 hh,HM.out y]
    have hal:∀y∈l.take (k+1),y<2^vars:=fun y hy=>by
     rw[HT.out,List.mem_append,List.mem_singleton] at hy;rcases hy with hy|rfl
     ·exact HR.out y hy
     ·exact hxv
    have HIN:=zH hin;have HAL:=zH hal;have HV3:=zH hmv3;clear hF1 mv1 x1 hb1 m1 hF2 mv2 x2 hb2 m2 hb3 hmv3 hin hal HMv HR HM HG;go_wp2_with fail;refine HFR.out.mono ?_;rintro e w4 ⟨n4,ns4,O4,rfl,hF4,mv4,hb4,m4,c4⟩;clear HFR;go_wp2;go_roundw
    case rel=>exact⟨k+1,ns4,O4,h2,by omega,by go_num,rfl,hF4,HV3.out.trans mv4,hb4,fun y=>(m4 y).trans (HIN.out y),by omega,HAL.out⟩
    case measure=>simp[intOf];omega
   ·have HO:=zH (zis hF x hxv hx64);clear hF;go_wp2_with fail;refine HO.out.mono ?_;rintro e w1 ⟨rfl,rfl⟩;go_wp2;go_ret2;exact .inr ⟨O1,rfl,hM,x,HMX.out,hxv⟩
  ·have e:k=l.length:=by omega
   subst e;rw[List.take_length] at hm hr;go_wp2;go_ret2;exact .inl ⟨hz,ns,O1,rfl,hF,hM,hh,hm,hc,hr⟩
end
end Fm
namespace Fm
open Go.RowKit Go.Maps Go.Proofs.YtapobpgbcbplbaaGreatDoor.Bd
theorem zi6(x:Int)(w:World):zC 171 #[.int .u64 x] w fun e w'=>e=.returned (.bool false)/\w=w':=by
 go_enter Tryz.func171,Tryz.ntmps171;go_wp2;go_ret;exact⟨by simp,rfl⟩
theorem zh7(x y:Int)(w:World):zC 133 #[.int .u64 x,.int .u64 y] w fun e w'=>e=.returned (.bool (decide (x<y)))/\w=w':=by
 go_enter Tryz.func133,Tryz.ntmps133;go_wp2_with fail;refine(zi6 x w).mono ?_;rintro e w1 ⟨rfl,rfl⟩;go_wp2;go_ret;exact⟨rfl,rfl⟩
end Fm
namespace Fm
open Go.RowKit Go.Maps Go.Proofs.YtapobpgbcbplbaaGreatDoor.Bd
theorem za0(ns:List Nd):∀(d:Nat) (h:Int) (x:Nat),nsF d ns h=(stF d ns h x).length
 |0,h,x=>by unfold nsF stF;split<;>rfl
 |d+1,h,x=>by
  unfold nsF stF;split
  ·split<;>rfl
  ·rw[List.length_append,za0 ns d _ x,za0 ns d _ (x|||2^(zb ns h).toNat)]
theorem zeL(ns:List Nd)(h:Int)(x:Nat):nsN ns h=(stL ns h x).length:=za0 ns 24 h x
theorem zeC:∀(n v:Nat),(yC n v).length=2^n
 |0,_=>rfl
 |n+1,v=>by unfold yC;rw[List.length_append,List.length_map,zeC n,Nat.pow_succ];omega
theorem zaV{vars:Nat}{ns:List Nd}(hg:zI vars ns)(hv:vars<=24){h:Int}(hh:ze ns h=true):nsN ns h<=2^vars:=by
 rw[zeL ns h 0,JA hg hv hh,<-zeC vars 0];exact List.length_filter_le _ _
def UAt(w:World)(g:Nat)(l:List Nat):Prop:=g<w.heap.size/\∀i,i<l.length->w.cell? ⟨g,i,none⟩=some (.int .u64 (l.getD i 0:Nat))
theorem UAt.below{w w':World}{g:Nat}{l:List Nat}(h:UAt w g l)(hb:zB w w'):UAt w' g l:=⟨Nat.lt_of_lt_of_le h.1 hb.size,fun i hi=>(hb.cell (p:=⟨g,i,none⟩) h.1).trans (h.2 i hi)⟩
theorem zg3{N n c:Nat}{w:World}{a:Option Addr}{l:List Nat}(h:w.ownsRow N 68 1 (.slice a n c) l.length (yy l))(hne:0<l.length):∃g,a=some ⟨g,0,none⟩/\UAt w g l/\n=l.length/\N<=g:=by
 rcases h.2 with ⟨-,e⟩|⟨g,cap,cur,e,h2,h3,h4⟩
 ·omega
 ·cases e;have hlt:=h.lt g rfl;refine⟨g,rfl,⟨hlt.2,fun i hi=>?_⟩,rfl,hlt.1⟩;have:=h.cellAt i (by omega)
  rwa [zaC l i hi] at this
section
variable {B s b:Nat} {O:Nat->Prop} {vars room:Nat} {ns:List Nd}
end
end Fm
namespace Sr
open Go.RowKit Go.Maps Go.Proofs.YtapobpgbcbplbaaGreatDoor.Bd Go.Proofs.YtapobpgbcbplbaaGreatDoor.Fm Go.Sort
structure UR(w:World)(g:Nat)(d:Array Int):Prop where
 lt:g<w.heap.size
 cell:∀j,j<d.size->w.cell? ⟨g,j,none⟩=some (.int .u64 d[j]!)
 froz:∀j,j<d.size->w.frozen? ⟨g,j,none⟩=false
abbrev KG(g:Nat)(w w':World):Prop:=zc (fun j=>j=g) w w'
section
variable {w w':World} {g:Nat} {d:Array Int}
theorem UR.set(h:UR w g d){i:Nat}(hi:i<d.size)(x:Int):UR (w.setCell ⟨g,i,none⟩ (.int .u64 x)) g (d.setIfInBounds i x):=by
 refine⟨by simpa using h.lt,fun j hj=>?_,fun j hj=>?_⟩
 ·rw[Array.size_setIfInBounds] at hj
  by_cases e:j=i
  ·subst e;rw[World.cell?_setCell_same _ _ _ (h.cell j hj),getElem!_set_same d j x hj]
  ·rw[World.cell?_setCell_other _ _ _ _ (by intro e2;injection e2 with _ e3;exact e e3.symm),getElem!_set_other d i j x e];exact h.cell j hj
 ·rw[Array.size_setIfInBounds] at hj;rw[World.frozen?_setCell];exact h.froz j hj
theorem UR.swp(h:UR w g d){i j:Nat}{x y:Int}(hi:i<d.size)(hj:j<d.size)(hx:x=d[i]!)(hy:y=d[j]!):UR ((w.setCell ⟨g,i,none⟩ (.int .u64 y)).setCell ⟨g,j,none⟩ (.int .u64 x)) g (swp d i j):=by
 subst hx hy;exact(h.set hi _).set (by simpa using hj) _
theorem UR.drew(h:UR w g d):UR w.drew g d:=⟨h.lt,h.cell,h.froz⟩
theorem UR.drewN(h:UR w g d)(m:Nat):UR (w.drewN m) g d:=⟨h.lt,h.cell,h.froz⟩
theorem KG.drewN(h:KG g w w')(m:Nat):KG g w (w'.drewN m):=h.trans (zc.of_below (Qi zF m) _)
theorem qR(x y:Int)(w:World):zC 133 #[.int .u64 x,.int .u64 y] w fun e w'=>e=.returned (.bool (decide (x<y)))/\w'=w:=(zh7 x y w).mono fun _ _ h=>⟨h.1,h.2.symm⟩
theorem KG.swp(w:World)(i j:Nat)(u v:Value):KG g w ((w.setCell ⟨g,i,none⟩ u).setCell ⟨g,j,none⟩ v):=(zc.setCell (S:=fun k=>k=g) w ⟨g,i,none⟩ u rfl).trans (zc.setCell (S:=fun k=>k=g) _ ⟨g,j,none⟩ v rfl)
theorem KG.drew(h:KG g w w'):KG g w w'.drew:=h.trans (zc.of_below zF.drew _)
end
theorem qP(d:Array Int)(i j:Nat):(swp d i j).size=d.size:=by simp[swp]
theorem zh1(g cap:Nat)(d:Array Int)(a b:Nat)(w:World)(h:UR w g d)(hab:a<b)(hb:b<=d.size)(hsz:d.size<=1000000) :
  zC 131 #[.slice (some ⟨g,0,none⟩) d.size cap,.int .i64 a,.int .i64 b] w fun e w'=>e=.returned (.tuple #[])/\UR w' g (reverseRange d a b)/\KG g w w':=by
 have h0:=zH h;obtain⟨n,hn⟩:∃n,n=d.size:=⟨_,rfl⟩;rw[<-hn] at hb hsz ⊢;have HN:=zH hn;have hw1:IntKind.i64.wrap ((b:Int)-1)=((b-1:Nat):Int):=by rw[IntKind.wrap_i64];omega
 clear h hn;go_enter Tryz.func131,Tryz.ntmps131;go_wp2_with fail;go_loopw [6,7] (fun iV jV wr=>∃(i j:Nat) (dk:Array Int),iV=.int .i64 i/\jV=.int .i64 j/\i<=b/\j<b/\dk.size=n/\UR wr g dk/\KG g w wr/\reverseLoop i j dk=reverseLoop a (b-1) d) (fun iV _ _=>b-(intOf iV).toNat)
 case atStart=>exact⟨a,b-1,d,rfl,rfl,by omega,by omega,HN.out.symm,h0.out,zc.refl _ _,rfl⟩
 case round =>
  obtain⟨i,j,dk,rfl,rfl,hi,hj,hdk,hU,hK,heq⟩:=hrel
  by_cases hlt:i<j
  ·have i1:(i:Int)<(j:Int):=by omega
   have cx:=hU.cell i (by omega);have cy:=hU.cell j (by omega);have fx:=hU.froz i (by omega);have fy:=hU.froz j (by omega);have HU:Hid (∀x y,x=dk[i]! -> y=dk[j]! -> UR ((wr.setCell ⟨g,i,none⟩ (.int .u64 y)).setCell ⟨g,j,none⟩ (.int .u64 x)).drew g (swp dk i j)):=fun x y hx hy=>(hU.swp (by omega) (by omega) hx hy).drew;have HK:Hid (∀u v,KG g w ((wr.setCell ⟨g,i,none⟩ u).setCell ⟨g,j,none⟩ v).drew):=fun u v=>(hK.trans (KG.swp _ _ _ _ _)).drew;have HQ:Hid (reverseLoop (i+1) (j-1) (swp dk i j)=reverseLoop a (b-1) d):=by
    have e:reverseLoop i j dk=reverseLoop (i+1) (j-1) (swp dk i j):=by rw[reverseLoop,if_pos hlt]
    rw[<-e];exact heq
   obtain⟨x,hx⟩:∃x,x=dk[i]! := ⟨_,rfl⟩;obtain⟨y,hy⟩:∃y,y=dk[j]! := ⟨_,rfl⟩;have HU2:=zH (HU.out x y hx hy);rw[<-hx] at cx;rw[<-hy] at cy;have hne:¬i=j:=by omega
   have w2:IntKind.i64.wrap ((i:Int)+1)=((i+1:Nat):Int):=by rw[IntKind.wrap_i64];omega
   have w3:IntKind.i64.wrap ((j:Int)-1)=((j-1:Nat):Int):=by rw[IntKind.wrap_i64];omega
   have i2:(i:Int)<(n:Int):=by omega
   have i3:(j:Int)<(n:Int):=by omega
   have hds:Hid ((swp dk i j).size=n):=by show _=_;rw[qP,hdk]
   clear hU hK HU heq hx hy hdk;go_wp2_with fail;go_region;go_wp2;go_roundw
   case rel=>exact⟨i+1,j-1,swp dk i j,by go_num,rfl,by omega,by omega,hds.out,HU2.out,HK.out _ _,HQ.out⟩
   case measure=>simp[intOf];omega
  ·have HD:=zH heq;clear heq;have i1:¬(i:Int)<(j:Int):=by omega
   go_wp2;refine bodyPost_end (v:=.tuple #[]) (by simp[results,Tryz.results131,go_sem]) rfl ⟨rfl,?_,hK⟩;have:=HD.out;rw[reverseLoop,if_neg hlt] at this;rw[reverseRange,<-this];exact hU
end Sr
end Go.Proofs.YtapobpgbcbplbaaGreatDoor
