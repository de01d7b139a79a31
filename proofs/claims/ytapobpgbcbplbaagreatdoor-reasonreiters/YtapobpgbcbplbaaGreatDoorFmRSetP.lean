/- A row of sets into which one is put. -/
import Derived.Test.YtapobpgbcbplbaaGreatDoorCnFits
import Derived.Laws.CopyOwn
import Derived.Deep.RegionHeldLaw
namespace Go.Proofs.YtapobpgbcbplbaaGreatDoor
set_option maxHeartbeats 4000000
set_option maxRecDepth 100000
namespace Fm
open Go.RowKit Go.Maps Go.Proofs.YtapobpgbcbplbaaGreatDoor.Bd Go.Proofs.YtapobpgbcbplbaaGreatDoor.Bd.Num
theorem zl0(w:World)(x:Int)(hx:Bd.I64 x):xG (w.alloc (.cells #[.int .i64 x] 3)) w.heap.size [x] :=
 ⟨by simp,fun i hi=>by simp at hi;subst hi;simp,fun y hy=>by rw[List.mem_singleton] at hy;subst hy;exact hx⟩
section
variable {B s b:Nat} {O:Nat->Prop} {vars room:Nat} {ns:List Nd}
theorem zkR(w:World)(hF:qH B w s b O vars room ns)(h:Int)(hh:ze ns h=true) :
  zC 71 #[.pointer (some ⟨s,0,none⟩),.int .i64 h] w fun e w'=>∃v,e=.returned (.tuple #[v,.nilIface])/\qk w' v (nsN ns h)/\zB w w':=by
 have hS:=hF.space;have hg:=hF.good;have hlen:=hF.len;have hl:ns.length<=90000:=by omega
 have hv:=hF.v24;have hi:=yO hh (by omega);have hb1:=Bd.zf w (.cells #[.slice none 0 0] 152);have s1:(w.alloc (.cells #[.slice none 0 0] 152)).heap.size=w.heap.size+1:=by simp
 have HP:=zbV (cp:=1) ((hS.new hb1).new (Bd.zf (w.alloc (.cells #[.slice none 0 0] 152)) (.cells #[.int .i64 h] 3))) (by omega) (w.alloc (.cells #[.slice none 0 0] 152)).heap.size [h] (zl0 (w.alloc (.cells #[.slice none 0 0] 152)) h hi) (by simp) (fun y hy=>by rw[List.mem_singleton] at hy;subst hy;exact hh);rw[show [h].length=1 from rfl,s1] at HP;have HPR:=zH HP;have hb2:=hb1.alloc hb1.size (.cells #[.int .i64 h] 3);have s2:((w.alloc (.cells #[.slice none 0 0] 152)).alloc (.cells #[.int .i64 h] 3)).heap.size=w.heap.size+1+1:=by rw[World.size_alloc,s1]
 have hb3:=hb2.alloc hb2.size (.map #[] 0);have hown:=World.ownsMap_made ((w.alloc (.cells #[.slice none 0 0] 152)).alloc (.cells #[.int .i64 h] 3)) Tryz.prog 3 Z7;rw[s2] at hown;have hD:qx (((w.alloc (.cells #[.slice none 0 0] 152)).alloc (.cells #[.int .i64 h] 3)).alloc (.map #[] 0)) (w.heap.size+1+1) vars ns []:=⟨⟨_,hown,Bd.Rep.empty⟩,(fun p hp=>by cases hp),(fun p hp=>by cases hp)⟩;have hslt:=hS.slt;have HWA:=zcX (B:=B) (s:=s) (b:=b) (dk:=w.heap.size+1+1) (O:=O) (vars:=vars) (room:=(room:Int)) (ns:=ns) hg hl hv (fun ho=>by have:=(hS.own _ ho).2;omega) (by omega) 24 h [] _ (hS.new hb3) hD hh (by have:=(qh hg.ranked h).1;omega);have HWY:Hid (zC 118 #[.pointer (some ⟨s,0,none⟩),.int .i64 h,.map (some (w.heap.size+1+1))] (((w.alloc (.cells #[.slice none 0 0] 152)).alloc (.cells #[.int .i64 h] 3)).alloc (.map #[] 0)) (Z5 (w.heap.size+1+1) vars ns (nsN ns h) (((w.alloc (.cells #[.slice none 0 0] 152)).alloc (.cells #[.int .i64 h] 3)).alloc (.map #[] 0)))):=HWA;have HBX:Hid (xH (((w.alloc (.cells #[.slice none 0 0] 152)).alloc (.cells #[.int .i64 h] 3)).alloc (.map #[] 0)) w.heap.size):=((YA w).new (Bd.zf _ _)).new (Bd.zf _ _);have HB3:=zH hb3;have hmm:=@run_makeMap Tryz.prog;clear HP HWA hF hS hg hh hb1 hb2 hb3 hown hD;generalize nsN ns h=m at *;go_enter Tryz.func71,Tryz.ntmps71;go_wp2_with fail;refine HPR.out.mono ?_;rintro e w1 ⟨rfl,rfl⟩;clear HPR;go_wp2_with fail;refine HWY.out.mono ?_;rintro e w4 ⟨v4,L4,rfl,hn,hD4,hk⟩;generalize (((w.alloc (.cells #[.slice none 0 0] 152)).alloc (.cells #[.int .i64 h] 3)).alloc (.map #[] 0))=W3 at *;obtain⟨x,rfl,hx⟩:=hn;obtain⟨xa,xn,xc⟩:=x;have hn:qk w4 (NV.val ⟨xa,xn,xc⟩) m:=⟨_,rfl,hx⟩;have hbx:=HBX.out.kept hk (show w.heap.size≠w.heap.size+1+1 by omega);have bc:=hbx.c;have bf:=hbx.f;have hcs:(w4.setCell ⟨w.heap.size,0,none⟩ (.slice xa xn xc)).cell? ⟨w.heap.size,0,none⟩=some (.slice xa xn xc):=World.cell?_setCell_same _ _ _ bc;have hb4:zB w (w4.setCell ⟨w.heap.size,0,none⟩ (.slice xa xn xc)):=(HB3.out.trans (hk.below HB3.out.size (fun j e=>by omega))).setCell zN _;have HFIN:Hid (∃v,Ending.returned (.tuple #[.agg #[.slice xa xn xc],.nilIface])=.returned (.tuple #[v,.nilIface])/\qk (w4.setCell ⟨w.heap.size,0,none⟩ (.slice xa xn xc)) v m/\zB w (w4.setCell ⟨w.heap.size,0,none⟩ (.slice xa xn xc))):=⟨_,rfl,hn.box hbx.no _,hb4⟩;clear hn hx hD4 hk hbx hb4 HWY HBX HB3;unfold NV.val;go_wp2;refine bodyPost_ret (v:=.tuple #[.agg #[.slice xa xn xc],.nilIface]) (by simp[results,Tryz.results71,go_sem,hcs]) rfl HFIN.out
theorem zjH{w:World}{r:Value}{m:Nat}(h:qk w r m)(hm:m<=100000000):zR 72 #[r] w (.tuple #[.int .i64 m,.bool true]):=by
 obtain⟨s1,d1,rfl,g1,n1,v1,k1⟩:=h.open hm;refine(zoJ s1 d1 w g1 n1.small (by omega)).mono ?_;rintro e w' ⟨h1,-,hb⟩;exact⟨by rw[h1 (by rw[v1];omega),v1],hb⟩
theorem zb9(w:World)(hF:qH B w s b O vars room ns)(h:Int)(hh:ze ns h=true)(most:Int)(hm:(nsN ns h:Int)<=most) :
  zR 44 #[.pointer (some ⟨s,0,none⟩),.int .i64 h,.int .i64 most] w .nilIface:=by
 have HC:=zH (zkR w hF h hh);have hle:=K6 ns h;clear hF hh;generalize nsN ns h=m at *;go_enter Tryz.func44,Tryz.ntmps44;go_wp2_with fail;refine HC.out.mono ?_;rintro e w1 ⟨v,rfl,hv,hb1⟩;obtain⟨⟨xa,xn,xc⟩,rfl,hx⟩:=hv;have hv:qk w1 (.agg #[.slice xa xn xc]) m:=⟨⟨xa,xn,xc⟩,rfl,hx⟩;have hb2:=Bd.zf w1 (.cells #[.slice xa xn xc] 152);have bc:(w1.alloc (.cells #[.slice xa xn xc] 152)).cell? ⟨w1.heap.size,0,none⟩=some (.slice xa xn xc):=by simp
 have HFT:=zH (zjH (hv.new hb2) (by omega));have HB:=zH (zT hb1 hb2);clear hv hx hb1 hb2 HC;unfold NV.val;go_wp2_with fail;refine HFT.out.mono ?_;rintro e w2 ⟨rfl,hb3⟩;have HB2:=zH (zT HB.out hb3);have hlt:¬(m:Int)>most:=by omega
 clear hb3 HFT HB;go_wp2;go_ret;exact⟨rfl,HB2.out⟩
theorem zfR{w:World}(hF:qH B w s b O vars room ns){a:Int}(ha:ze ns a=true)(hn:nsN ns a<=65536)(hroom:zq vars ns+zj (rr vars (-1)) .hits+18<room) :
  zC 22 #[.pointer (some ⟨s,0,none⟩),.int .i64 a] w (Yf B s b O vars room .hits ns a 0 w):=by
 have HL:=zH (zb9 w hF a ha 65536 (by omega));have HA:Hid (∀W,zB w W->zC 45 #[.pointer (some ⟨s,0,none⟩),.func (.func 46) #[] #[],.int .i64 a,.int .i64 0] W (Yf B s b O vars room .hits ns a 0 W)):=fun W hW=>zel ziw (fun _ _=>by kernel_rfl) (hF.new hW) ha (ZX ns) (fun _=>rfl) hroom;clear hF ha;go_enter Tryz.func22,Tryz.ntmps22;go_wp2_with fail;refine HL.out.mono ?_;rintro e w1 ⟨rfl,hb1⟩;clear HL;go_wp2_with fail;refine(HA.out _ hb1).mono ?_;rintro e w2 ⟨h,ns',O',rfl,h2,h3,hr⟩;go_wp2;go_ret2;exact⟨h,ns',O',rfl,h2,(Mv.of_below hb1).trans h3,hr⟩
end
end Fm
namespace Bd
open Go.RowKit Go.Maps
def ZE(x:Int)(n:Nat):Nat:=((x%18446744073709551616).toNat)%n
theorem zgW(x:Int){n:Nat}(h:0<n):ZE x n<n:=Nat.mod_lt _ h
end Bd
namespace Fm
open Go.RowKit Go.Maps Go.Proofs.YtapobpgbcbplbaaGreatDoor.Bd
section
variable {ns:List Nd} {vars:Nat}
theorem zas(hr:zw ns)(fs:List Int):∀(d:Nat) (h:Int) (x:Nat),yh ns (qc ns fs) h->inF d (swept ns (qc ns fs)) h x=inF d ns h x
 |0,_,_,_=>rfl
 |d+1,h,x,hm=>by
  obtain⟨e1,e2⟩:=Q3 hm;unfold inF;rw[e1]
  by_cases ht:zb ns h=24
  ·rw[if_pos ht,if_pos ht]
  ·have hk:=Kh hr fs (pl h) (yX ht).2.1 (hm.resolve_left ht);rw[if_neg ht,if_neg ht,e2 ht,zas hr fs d _ _ hk.1,zas hr fs d _ _ hk.2]
theorem KP(hg:zI vars ns){fs:List Int}{h:Int}(hh:h∈fs)(hb:ze ns h=true):ze (swept ns (qc ns fs)) h=true/\∀x,In (swept ns (qc ns fs)) h x↔In ns h x:=by
 have hm:=JD hg.ranked fs h hh;refine⟨?_,fun x=>by unfold In inB;rw[zas hg.ranked fs 24 h x hm]⟩;unfold ze;rw[(Q3 hm).1];exact hb
end
def XH(al:List Int)(x:Int):Int:=al.getD (ZE x al.length) 0
abbrev Fam:Type:=Nat->Prop
def tAt(T:List Fam)(x:Int):Fam:=T.getD (ZE x T.length) (fun _=>False)
structure Zb(vars:Nat)(ns:List Nd)(al:List Int)(T:List Fam):Prop where
 has:∀h∈al,ze ns h=true
 len:al.length=T.length
 mem:∀i (h1:i<al.length) (h2:i<T.length),∀x,In ns al[i] x↔T[i] x
section
variable {vars:Nat} {ns:List Nd} {al:List Int} {T:List Fam}
theorem Zb.at(h:Zb vars ns al T)(hne:0<al.length)(x:Int):ze ns (XH al x)=true/\∀y,In ns (XH al x) y↔tAt T x y:=by
 have hl:=zgW x hne;have e1:XH al x=al[ZE x al.length]:=by unfold XH;simp[List.getD_eq_getElem?_getD,List.getElem?_eq_getElem hl]
 have e2:tAt T x=T[ZE x T.length]'(by rw[<-h.len];exact hl):=by unfold tAt;simp[List.getD_eq_getElem?_getD,List.getElem?_eq_getElem (show ZE x T.length<T.length by rw[<-h.len];exact hl)]
 refine⟨by rw[e1];exact h.has _ (List.getElem_mem hl),fun y=>?_⟩;have h0:=h.mem (ZE x al.length) hl (by rw[<-h.len];exact hl) y;have e3:T[ZE x al.length]'(by rw[<-h.len];exact hl)=T[ZE x T.length]'(by rw[<-h.len];exact hl):=getElem_congr_idx (by rw[h.len]);rw[e1,h0,e2,e3]
theorem Zb.swept(hg:zI vars ns)(h:Zb vars ns al T):Zb vars (Go.Proofs.YtapobpgbcbplbaaGreatDoor.Bd.swept ns (qc ns al)) al T :=
 ⟨fun x hx=>(KP hg hx (h.has x hx)).1,h.len,fun i h1 h2 x=>by rw[(KP hg (List.getElem_mem h1) (h.has _ (List.getElem_mem h1))).2 x];exact h.mem i h1 h2 x⟩
theorem Zb.more{ns':List Nd}{x:Int}{g:Fam}(hr:zw ns)(h:Zb vars ns al T)(he:Ext ns ns')(hx:ze ns' x=true)(hs:∀y,In ns' x y↔g y):Zb vars ns' (al++[x]) (T++[g]):=by
 refine⟨fun y hy=>?_,by simp[h.len],fun i h1 h2 y=>?_⟩
 ·rcases List.mem_append.1 hy with hy|hy
  ·exact he.has y (h.has y hy)
  ·rw[List.mem_singleton] at hy;subst hy;exact hx
 ·by_cases hi:i<al.length
  ·rw[List.getElem_append_left hi,List.getElem_append_left (by rw[<-h.len];exact hi),qV hr he (h.has _ (List.getElem_mem hi))];exact h.mem i hi (by rw[<-h.len];exact hi) y
  ·have e:i=al.length:=by simp at h1;omega
   subst e;have e2:(T++[g])[al.length]'h2=g:=by simp[h.len]
   rw[e2];simp[hs y]
theorem Zb.ext{ns':List Nd}(hr:zw ns)(h:Zb vars ns al T)(he:Ext ns ns'):Zb vars ns' al T :=
 ⟨fun y hy=>he.has y (h.has y hy),h.len,fun i h1 h2 y=>by rw[qV hr he (h.has _ (List.getElem_mem h1))];exact h.mem i h1 h2 y⟩
end
end Fm
namespace Fm
open Go.RowKit Go.Maps Go.Proofs.YtapobpgbcbplbaaGreatDoor.Bd
def stF:Nat->List Nd->Int->Nat->List Nat
 |0,_,h,x=>if h=1 then [x] else []
 |d+1,ns,h,x=>if zb ns h=24 then (if h=1 then [x] else []) else stF d ns (nd ns (pl h)).l x++stF d ns (nd ns (pl h)).h (x|||2^(zb ns h).toNat)
def stL(ns:List Nd)(h:Int)(x:Nat):List Nat:=stF 24 ns h x
def yC:Nat->Nat->List Nat
 |0,_=>[0]
 |n+1,v=>yC n (v+1)++(yC n (v+1)).map fun y=>2^v|||y
theorem XJ:∀(n v y:Nat),y∈yC n v->∀i,i<v->y.testBit i=false
 |0,v,y,hy,i,hi=>by
  unfold yC at hy;rw[List.mem_singleton] at hy;subst hy;simp
 |n+1,v,y,hy,i,hi=>by
  unfold yC at hy;rcases List.mem_append.1 hy with h|h
  ·exact XJ n (v+1) y h i (by omega)
  ·obtain⟨z,hz,rfl⟩:=List.mem_map.1 h;rw[Nat.testBit_or,XJ n (v+1) z hz i (by omega),Nat.testBit_two_pow];simp;omega
section
variable {ns:List Nd} {vars:Nat}
theorem Yr(hr:zw ns):∀(d e:Nat) (h:Int) (x:Nat),24<=zb ns h+d->24<=zb ns h+e->stF d ns h x=stF e ns h x
 |0,0,h,_,_,_=>rfl
 |0,e+1,h,x,hd,_=>by
  have:=(qh hr h).2;unfold stF;rw[if_pos (show zb ns h=24 by omega)]
 |d+1,0,h,x,_,he=>by
  have:=(qh hr h).2;unfold stF;rw[if_pos (show zb ns h=24 by omega)]
 |d+1,e+1,h,x,hd,he=>by
  unfold stF
  by_cases ht:zb ns h=24
  ·rw[if_pos ht,if_pos ht]
  ·rw[if_neg ht,if_neg ht];obtain⟨k1,-,k2,-⟩:=xq hr ht;rw[Yr hr d e _ _ (by omega) (by omega),Yr hr d e (nd ns (pl h)).h _ (by omega) (by omega)]
theorem zex{h:Int}(ht:zb ns h=24)(x:Nat):stL ns h x=if h=1 then [x] else []:=by unfold stL stF;rw[if_pos ht]
theorem zeV(hr:zw ns){h:Int}(ht:zb ns h≠24)(x:Nat):stL ns h x=stL ns (nd ns (pl h)).l x++stL ns (nd ns (pl h)).h (x|||2^(zb ns h).toNat):=by
 obtain⟨k1,-,k2,-⟩:=xq hr ht;have h0:=(qh hr h).1;show stF 24 ns h x=stF 24 _ _ _++stF 24 _ _ _;rw[show stF 24 ns h x=stF 23 ns (nd ns (pl h)).l x++stF 23 ns (nd ns (pl h)).h (x|||2^(zb ns h).toNat) from by unfold stF;rw[if_neg ht];rfl];rw[Yr hr 23 24 _ _ (by omega) (by omega),Yr hr 23 24 (nd ns (pl h)).h _ (by omega) (by omega)]
theorem Kr{y v:Nat}(h:y.testBit v=false):2^v|||y=y^^^2^v:=by
 apply Nat.eq_of_testBit_eq;intro i;rw[Nat.testBit_or,Nat.testBit_two_pow,JR]
 by_cases e:i=v
 ·subst e;simp[h]
 ·simp[e,Ne.symm e]
theorem zg5(hg:zI vars ns){h:Int}(x:Nat)(hle:(vars:Int)<=zb ns h):stL ns h x=(([0]:List Nat).filter (inB ns h)).map fun y=>x|||y:=by
 have ht:zb ns h=24:=by
  by_cases t:zb ns h=24
  ·exact t
  ·have:=Q7 hg t;omega
 rw[zex ht,List.filter_cons,Jn ht]
 by_cases e:h=1
 ·simp[e]
 ·simp[e]
theorem zoS(hr:zw ns){h:Int}{v:Nat}(ht:zb ns h≠24)(tn:(zb ns h).toNat=v)(A:List Nat)(low:∀y∈A,y.testBit v=false):A.filter (inB ns h)=A.filter (inB ns (nd ns (pl h)).l):=by
 apply List.filter_congr;intro y hy;rw[YH hr ht,tn,if_neg (by rw[low y hy];decide)]
theorem zlA(hr:zw ns){h:Int}{v:Nat}(ht:zb ns h≠24)(tn:(zb ns h).toNat=v)(A:List Nat)(low:∀y∈A,y.testBit v=false):A.filter (inB ns h ∘ fun y=>2^v|||y)=A.filter (inB ns (nd ns (pl h)).h):=by
 apply List.filter_congr;intro y hy;have hb:=low y hy;rw[Function.comp_apply,Kr hb,YH hr ht,tn,if_pos (by rw[Q8,hb];rfl),ZM]
theorem zjm(hr:zw ns){h:Int}{v:Nat}(hv:(v:Int)<zb ns h)(A:List Nat):A.filter (inB ns h ∘ fun y=>2^v|||y)=[]:=by
 rw[List.filter_eq_nil_iff];intro y hy hin0;rw[Function.comp_apply] at hin0;have hin:In ns h (2^v|||y):=hin0;have hb:(2^v|||y).testBit v=true:=by rw[Nat.testBit_or,Nat.testBit_two_pow];simp
 have hc:=Ys hr (h:=h) (x:=2^v|||y) (i:=v) hv hin;rw[hb] at hc;cases hc
theorem Jo(n v:Nat):yC (n+1) v=yC n (v+1)++(yC n (v+1)).map fun y=>2^v|||y:=rfl
theorem zlE(hg:zI vars ns)(hv24:vars<=24)(n:Nat):∀(v:Nat) (h:Int) (x:Nat),v+n=vars->ze ns h=true->(v:Int)<=zb ns h->stL ns h x=((yC n v).filter (inB ns h)).map fun y=>x|||y:=by
 have hr:=hg.ranked
 induction n with
 |zero =>intro v h x hv hh hle;exact zg5 hg x (by omega)
 |succ n ih =>
  intro v h x hv hh hle;have low:∀y∈yC n (v+1),y.testBit v=false:=fun y hy=>XJ n (v+1) y hy v (by omega);rw[Jo,List.filter_append,List.map_append,List.filter_map,List.map_map]
  by_cases e:zb ns h=(v:Int)
  ·have ht:zb ns h≠24:=by omega
   obtain⟨k1,k2,k3,k4⟩:=xq hr ht;have tn:(zb ns h).toNat=v:=by omega
   rw[zeV hr ht,ih (v+1) _ x (by omega) k2 (by omega),ih (v+1) _ _ (by omega) k4 (by omega),tn,zoS hr ht tn _ low,zlA hr ht tn _ low];congr 1;apply List.map_congr_left;intro y hy;show _=x|||(2^v|||y);rw[Nat.or_assoc]
  ·rw[ih (v+1) h x (by omega) hh (by omega),zjm hr (by omega)];simp
theorem JA(hg:zI vars ns)(hv24:vars<=24){h:Int}(hh:ze ns h=true):stL ns h 0=(yC vars 0).filter (inB ns h):=by
 rw[zlE hg hv24 vars 0 h 0 (by omega) hh (qh hg.ranked h).1];simp
theorem JL(ns:List Nd):∀(d:Nat) (h:Int) (x:Nat),(stF d ns h x).length<=2^d
 |0,h,x=>by unfold stF;split<;>simp
 |d+1,h,x=>by
  unfold stF;have:=Nat.one_le_two_pow (n:=d+1);split
  ·split<;>simp<;>omega
  ·have h1:=JL ns d (nd ns (pl h)).l x;have h2:=JL ns d (nd ns (pl h)).h (x|||2^(zb ns h).toNat);rw[List.length_append,Nat.pow_succ];omega
end
end Fm
namespace Fm
open Go.RowKit Go.Maps Go.Proofs.YtapobpgbcbplbaaGreatDoor.Bd
def yy(l:List Nat):List Value:=l.map fun n:Nat=>Value.int .u64 n
theorem zgh(l m:List Nat):yy (l++m)=yy l++yy m:=by simp[yy]
theorem zaC(l:List Nat)(i:Nat)(h:i<l.length):(yy l)[i]?=some (.int .u64 (l.getD i 0:Nat)):=by simp[yy,List.getD_eq_getElem?_getD,h]
theorem zmp:(Tryz.prog.info? 68).map (fun i=>(i.zero,i.size,i.bytes))=some (some (.int .u64 0),1,8):=by kernel_rfl
theorem zhG(w:World)(x:Int)(t:TypeId):∀(j:Nat) (u:Value),[Value.int .u64 x][j]?=some u->(w.alloc (.cells #[.int .u64 x] t)).cell? ((⟨w.heap.size,0,none⟩:Addr).add j)=some u:=by
 intro j u hj;have:j=0:=by have:=(List.getElem?_eq_some_iff.1 hj).1;simp at this;omega
 subst this;simp at hj;subst hj;simp[Addr.add]
theorem znT(m i:Nat)(hm:m<2^24)(hi:i<24):bits BinOp.or IntKind.u64 (m:Int) (IntKind.u64.wrap (2^i))=((m|||2^i:Nat):Int):=by
 have h1:(2:Nat)^i<2^64:=Nat.pow_lt_pow_right (by decide) (by omega);have h2:(2:Nat)^24<18446744073709551616:=by decide
 have e:IntKind.u64.wrap (2^i)=((2^i:Nat):Int):=by
  rw[IntKind.wrap_u64,show ((2:Int)^i)=((2^i:Nat):Int) by simp];exact Int.emod_eq_of_lt (Int.natCast_nonneg _) (by omega)
 rw[e,bits_or_u64_nat m (2^i) (by omega) (by omega)]
section
variable {B N s b:Nat} {O:Nat->Prop} {vars:Nat} {room:Int} {ns:List Nd}
def Zr(N:Nat)(l:List Nat)(v0:Value)(w:World)(e:Ending)(w':World):Prop :=
 ∃a c,e=.returned (.slice a l.length c)/\w'.ownsRow N 68 1 (.slice a l.length c) l.length (yy l)/\zc (fun j=>v0.ownBlock=some j) w w'/\((Value.slice a l.length c).ownBlock=v0.ownBlock\/∃g,(Value.slice a l.length c).ownBlock=some g/\w.heap.size<=g)
theorem zcd(w:World)(hS:zZ B w s b O vars room ns)(hl:ns.length<=90000)(hN:N<=w.heap.size)(h:Int)(hh:ze ns h=true)(ht:zb ns h=24)(x:Nat)(acc:List Nat)(hacc:acc.length<=100000000)(a:Option Addr)(c:Nat)(hrow:w.ownsRow N 68 1 (.slice a acc.length c) acc.length (yy acc)) :
  zC 47 #[.pointer (some ⟨s,0,none⟩),.int .i64 h,.int .u64 x,.slice a acc.length c] w (Zr N (acc++stL ns h x) (.slice a acc.length c) w):=by
 have hi:=yO hh (by omega);have c0:=hS.c0;have HG:=QN hS h hi hl;rw[show decide (zb ns h≠24)=false by simp[ht],show qm ns h=⟨0,0,0⟩ by unfold qm;rw[if_pos ht]] at HG;unfold Nd.val at HG;have HGT:=zH HG;obtain⟨i0,hin,hz0,hz1,hz2⟩:=info_parts zmp;have HR:=zH hrow;rw[zex ht]
 by_cases e1:h=1
 ·rw[if_pos e1];subst e1;clear HG hS hrow ht hh;go_enter Tryz.func47,Tryz.ntmps47;go_wp2_with fail;refine HGT.out.mono ?_;rintro e w2 ⟨rfl,hb2⟩;have hb3:=hb2.alloc hb2.size (.cells #[.int .i64 0,.int .i64 0,.int .i64 0] 166);have HB3:=zH hb3;have HR3:Hid ((w2.alloc (.cells #[.int .i64 0,.int .i64 0,.int .i64 0] 166)).ownsRow N 68 1 (.slice a acc.length c) acc.length (yy acc)):=Zp HR.out (zc.of_below hb3 (fun _=>False)) (fun _ _ h=>h);have hN3:N<=(w2.alloc (.cells #[.int .i64 0,.int .i64 0,.int .i64 0] 166)).heap.size:=Nat.le_trans hN hb3.size;clear hb2 hb3 HGT HR;go_wp2_with (at_builtin;refine wpList_append_own_at _ rfl _ _ 39 rfl N 68 i0 (.int .u64 0) 1 8 Tryz.underlying39 hin hz0 hz1 hz2 rfl (by decide) _ _ _ rfl (HR3.out.alloc _) ⟨w2.heap.size+1,0,none⟩ 1 1 [.int .u64 x] rfl rfl ?c1 ?c2 ?c3 ?c4 ?c5 ?_)
  case c1 =>
   have e1:(w2.alloc (.cells #[.int .i64 0,.int .i64 0,.int .i64 0] 166)).heap.size=w2.heap.size+1:=by simp
   rw[<-e1];exact zhG _ _ _
  case c2=>intro u hu;simp at hu;subst hu;rfl
  case c3=>unfold maxLen;omega
  case c4=>omega
  case c5=>show N<=(World.alloc _ _).heap.size;rw[World.size_alloc];omega
  intro v7 w7 hown7 hgrow7 _ hloc7;have hlen:(acc++[x]).length=acc.length+1:=by simp
  obtain⟨a7,c7,rfl⟩:∃a7 c7,v7=.slice a7 (acc.length+1) c7:=by
   rcases hown7.2 with ⟨-,h2⟩|⟨g,cp,cur,h2,-⟩
   ·omega
   ·exact⟨_,_,h2⟩
  have hk7:zc (fun j=>(Value.slice a acc.length c).ownBlock=some j) w w7:=((zc.of_below HB3.out _).trans (zc.alloc _ _ _)).trans (zc.of_grown hgrow7 (fun i h=>h));have hl7:(Value.slice a7 (acc.length+1) c7).ownBlock=(Value.slice a acc.length c).ownBlock\/∃g,(Value.slice a7 (acc.length+1) c7).ownBlock=some g/\w.heap.size<=g:=by
   rcases hloc7 with h|h
   ·exact .inl h
   ·exact .inr ⟨_,h,by have:=HB3.out.size;rw[World.size_alloc] at this;omega⟩
  have HOUT:Hid (Zr N (acc++[x]) (.slice a acc.length c) w (.returned (.slice a7 (acc.length+1) c7)) w7):=⟨a7,c7,by rw[hlen],by rw[hlen,zgh];exact hown7,hk7,by rw[hlen];exact hl7⟩;clear hown7 hgrow7 hloc7 hk7 hl7;go_wp2;go_ret;exact HOUT.out
 ·rw[if_neg e1,List.append_nil];have h0:h=0:=(Zn hh ht).resolve_right e1;subst h0;clear HG hS hrow ht hh e1;go_enter Tryz.func47,Tryz.ntmps47;go_wp2_with fail;refine HGT.out.mono ?_;rintro e w2 ⟨rfl,hb2⟩;have hb3:=hb2.alloc hb2.size (.cells #[.int .i64 0,.int .i64 0,.int .i64 0] 166);have HB3:=zH hb3;have HR3:Hid ((w2.alloc (.cells #[.int .i64 0,.int .i64 0,.int .i64 0] 166)).ownsRow N 68 1 (.slice a acc.length c) acc.length (yy acc)):=Zp HR.out (zc.of_below hb3 (fun _=>False)) (fun _ _ h=>h);clear hb2 hb3 HGT HR;go_wp2;go_ret;exact⟨a,c,rfl,HR3.out,zc.of_below HB3.out _,.inl rfl⟩
def zen(B N s b:Nat)(O:Nat->Prop)(vars:Nat)(room:Int)(ns:List Nd)(d:Nat):Prop :=
 ∀(w:World),zZ B w s b O vars room ns->N<=w.heap.size->∀(h:Int),ze ns h=true->24<=zb ns h+d->∀(x:Nat),x<2^24->∀(acc:List Nat),acc.length+2^d<=100000000->∀(a:Option Addr) (c:Nat),w.ownsRow N 68 1 (.slice a acc.length c) acc.length (yy acc) ->
  zC 47 #[.pointer (some ⟨s,0,none⟩),.int .i64 h,.int .u64 x,.slice a acc.length c] w (Zr N (acc++stL ns h x) (.slice a acc.length c) w)
theorem zhP(hr:zw ns)(hl:ns.length<=90000)(hO:∀k,O k->k<N)(hs:s<N){d:Nat}(ih:zen B N s b O vars room ns d)(w:World)(hS:zZ B w s b O vars room ns)(hN:N<=w.heap.size)(h:Int)(hh:ze ns h=true)(ht:zb ns h≠24)(hd:24<=zb ns h+((d+1:Nat):Int))(x:Nat)(hx:x<2^24)(acc:List Nat)(hacc:acc.length+2^(d+1)<=100000000)(a:Option Addr)(c:Nat)(hrow:w.ownsRow N 68 1 (.slice a acc.length c) acc.length (yy acc)) :
  zC 47 #[.pointer (some ⟨s,0,none⟩),.int .i64 h,.int .u64 x,.slice a acc.length c] w (Zr N (acc++stL ns h x) (.slice a acc.length c) w):=by
 have hi:=yO hh (by omega);have c0:=hS.c0;have HG:=QN hS h hi hl;have h0:=(qh hr h).1;have ht24:=Go.Proofs.YtapobpgbcbplbaaGreatDoor.Bd.top_lt hr ht;obtain⟨k1,k2,k3,k4⟩:=xq hr ht;have hst:=zeV hr ht x;have hgv:(qm ns h).v=zb ns h:=by rw[Xw ht];exact(yX ht).2.2.1.symm
 have hgn:=Xw ht;rw[show decide (zb ns h≠24)=true by simp[ht]] at HG;unfold Nd.val at HG;rw[<-hgn] at k1 k2 k3 k4 hst;obtain⟨t,et⟩:∃t:Nat,zb ns h=(t:Int):=⟨(zb ns h).toNat,by omega⟩;rw[et] at hgv ht24 k1 k3 hst hd;have ett:((t:Int)).toNat=t:=by omega
 rw[ett] at hst;have hp:2^(d+1)=2^d+2^d:=by rw[Nat.pow_succ];omega
 generalize qm ns h=gn at *;obtain⟨gv,gl,gh⟩:=gn;simp only at hgv k1 k2 k3 k4 hst HG;subst hgv;have hor:=znT x t hx (by omega);have hx2:x|||2^t<2^24:=Nat.or_lt_two_pow hx (Nat.pow_lt_pow_right (by omega) (by omega));have hd1:24<=zb ns gl+(d:Int):=by omega
 have hd2:24<=zb ns gh+(d:Int):=by omega
 have ll1:(stL ns gl x).length<=2^d:=by
  have:stL ns gl x=stF d ns gl x:=Yr hr 24 d gl x (by have:=(qh hr gl).1;omega) hd1;rw[this];exact JL ns d gl x
 have HI1:Hid (∀W,zZ B W s b O vars room ns->N<=W.heap.size->W.ownsRow N 68 1 (.slice a acc.length c) acc.length (yy acc)->zC 47 #[.pointer (some ⟨s,0,none⟩),.int .i64 gl,.int .u64 x,.slice a acc.length c] W (Zr N (acc++stL ns gl x) (.slice a acc.length c) W)):=fun W hW hNW hrW=>ih W hW hNW gl k2 hd1 x hx acc (by omega) a c hrW;have HI2:Hid (∀W a2 c2,zZ B W s b O vars room ns->N<=W.heap.size->W.ownsRow N 68 1 (.slice a2 (acc++stL ns gl x).length c2) (acc++stL ns gl x).length (yy (acc++stL ns gl x))->zC 47 #[.pointer (some ⟨s,0,none⟩),.int .i64 gh,.int .u64 ((x|||2^t:Nat):Int),.slice a2 (acc++stL ns gl x).length c2] W (Zr N ((acc++stL ns gl x)++stL ns gh (x|||2^t)) (.slice a2 (acc++stL ns gl x).length c2) W)):=fun W a2 c2 hW hNW hrW=>ih W hW hNW gh k4 hd2 (x|||2^t) hx2 (acc++stL ns gl x) (by rw[List.length_append];omega) a2 c2 hrW;rw[hst,<-List.append_assoc];have HGT:=zH HG;have HR:=zH hrow;have HS:=zH hS;clear HG hS hrow hst ih k1 k2 k3 k4 hd1 hd2 hx2 hd ll1 hgn et;generalize acc++stL ns gl x=acc2 at *;generalize x|||2^t=x2 at *;generalize stL ns gh x2=l2 at *;go_enter Tryz.func47,Tryz.ntmps47;go_wp2_with fail;refine HGT.out.mono ?_;rintro e w2 ⟨rfl,hb2⟩;have hb3:=hb2.alloc hb2.size (.cells #[.int .i64 t,.int .i64 gl,.int .i64 gh] 166);obtain⟨x0,x1,x2',-⟩:=Zj w2 (.int .i64 t) (.int .i64 gl) (.int .i64 gh) 166;have hrow3:=Zp HR.out (zc.of_below hb3 (fun _=>False)) (fun _ _ h=>h);have hN3:N<=(w2.alloc (.cells #[.int .i64 t,.int .i64 gl,.int .i64 gh] 166)).heap.size:=Nat.le_trans hN hb3.size;have nbl:w2.heap.size<(w2.alloc (.cells #[.int .i64 t,.int .i64 gl,.int .i64 gh] 166)).heap.size:=by simp
 have H1:=zH (HI1.out _ (HS.out.new hb3) hN3 hrow3);have hown0:∀j,(Value.slice a acc.length c).ownBlock=some j->N<=j/\j<w.heap.size:=fun j hj=>HR.out.lt j hj;have HOW:=zH hown0;have HB3:=zH hb3;have hww:=hb2.size;clear hb2 hb3 HGT HI1 hrow3 hown0;go_wp2_with fail;generalize (w2.alloc (.cells #[.int .i64 t,.int .i64 gl,.int .i64 gh] 166))=W3 at *;refine H1.out.mono ?_;rintro e w4 ⟨a4,c4,rfl,hrow4,hk4,hl4⟩;have nb4:¬(Value.slice a acc.length c).ownBlock=some w2.heap.size:=fun h=>by have:=(HOW.out _ h).2;omega
 have y0:=(hk4.cell (a:=⟨w2.heap.size,0,none⟩) nbl nb4).trans x0;have y1:=(hk4.cell (a:=⟨w2.heap.size,1,none⟩) nbl nb4).trans x1;have y2:=(hk4.cell (a:=⟨w2.heap.size,2,none⟩) nbl nb4).trans x2';have hS4:=(HS.out.new HB3.out).kept hk4 (fun k ho hj=>by have:=(HOW.out k hj).1;have:=hO k ho;omega) (fun hj=>by have:=(HOW.out s hj).1;omega);have hbd:zB w4 w4.drew:=zF.drew;have H2:=zH (HI2.out w4.drew a4 c4 (hS4.new hbd) (Nat.le_trans hN3 hk4.size) (Zp hrow4 (zc.of_below hbd (fun _=>False)) (fun _ _ h=>h)));have nb6:¬(Value.slice a4 acc2.length c4).ownBlock=some w2.heap.size:=fun h=>by
  rcases hl4 with k|⟨g,k,hg⟩
  ·rw[k] at h;exact nb4 h
  ·rw[k] at h;cases h;omega
 have nbl4:w2.heap.size<w4.drew.heap.size:=Nat.lt_of_lt_of_le nbl hk4.size;have HK4:Hid (zc (fun j=>(Value.slice a acc.length c).ownBlock=some j) w w4):=(zc.of_below HB3.out _).trans hk4;have HL4:=zH hl4;have hw3:=HB3.out.size;clear hk4 hl4 hrow4 hS4 H1 HI2 x0 x1 x2' hbd;unfold Zr at H2;go_wp2_with fail;have SBq:w4.drew.cell? ⟨w2.heap.size,0,none⟩=some (.int .i64 t)/\w4.drew.cell? ⟨w2.heap.size,2,none⟩=some (.int .i64 gh):=⟨y0,y2⟩;go_region_held3 (fun X=>X.cell? ⟨w2.heap.size,0,none⟩=some (.int .i64 t)/\X.cell? ⟨w2.heap.size,2,none⟩=some (.int .i64 gh)) (first|exact SBq|exact hsk)
  (first|(go_at_call 47;with_reducible refine H2.out.mono ?_;rintro e w6 ⟨a6,c6,rfl,hrow6,hk6,hl6⟩;have hsk:w6.cell? ⟨w2.heap.size,0,none⟩=some (.int .i64 t)/\w6.cell? ⟨w2.heap.size,2,none⟩=some (.int .i64 gh):=⟨(hk6.cell (a:=⟨w2.heap.size,0,none⟩) nbl4 nb6).trans SBq.1,(hk6.cell (a:=⟨w2.heap.size,2,none⟩) nbl4 nb6).trans SBq.2⟩))
 have hw4:=HK4.out.size;have hkf:zc (fun j=>(Value.slice a acc.length c).ownBlock=some j) w w6:=HK4.out.drew.andThen hk6 (fun i hi hlt=>by
  rcases HL4.out with h|⟨g,h,hg⟩
  ·rw[<-h];exact hi
  ·rw [h] at hi;cases hi;omega)
 have hlf:(Value.slice a6 (acc2++l2).length c6).ownBlock=(Value.slice a acc.length c).ownBlock\/∃g,(Value.slice a6 (acc2++l2).length c6).ownBlock=some g/\w.heap.size<=g:=by
  rcases hl6 with h|⟨g,h,hg⟩
  ·rcases HL4.out with k|⟨g,k,hg⟩
   ·exact .inl (h.trans k)
   ·exact .inr ⟨g,h.trans k,by omega⟩
  ·exact .inr ⟨g,h,Nat.le_trans hw4 hg⟩
 have HOUT:Hid (Zr N (acc2++l2) (.slice a acc.length c) w (.returned (.slice a6 (acc2++l2).length c6)) w6):=⟨a6,c6,rfl,hrow6,hkf,hlf⟩;clear hsk hrow6 hk6 hl6 hkf hlf H2 HL4;rw[List.length_append] at HOUT;go_wp2;go_ret;exact HOUT.out
theorem zcN(hr:zw ns)(hl:ns.length<=90000)(hO:∀k,O k->k<N)(hs:s<N):∀d,zen B N s b O vars room ns d
 |0=>fun w hS hN h hh hd x _ acc hacc a c hrow=>zcd w hS hl hN h hh (by have:=(qh hr h).2;omega) x acc (by omega) a c hrow
 |d+1=>fun w hS hN h hh hd x hx acc hacc a c hrow=>by
  by_cases ht:zb ns h=24
  ·exact zcd w hS hl hN h hh ht x acc (by have:=Nat.one_le_two_pow (n:=d+1);omega) a c hrow
  ·exact zhP hr hl hO hs (zcN hr hl hO hs d) w hS hN h hh ht hd x hx acc hacc a c hrow
end
end Fm
namespace Fm
open Go.RowKit Go.Maps Go.Proofs.YtapobpgbcbplbaaGreatDoor.Bd
def UOk(x:Nat):Prop:=x<18446744073709551616
def zdm(x:Nat):Lit:=.int .u64 x
def zb3:Value->Option (DataW Unit × List MemPlace)
 |.bool b=>some (.lit (.bool b),[])
 |_=>none
abbrev Z6(D:DataW Unit)(L:List Nat):Prop:=Bd.Rep UOk zdm (fun _:Unit=>.lit (.bool true)) D (L.map fun x=>(x,()))
def FL(w:World)(b:Nat)(L:List Nat):Prop:=∃D,w.ownsMap Tryz.prog 68 zb3 b L.length D/\Z6 D L
def FM(w:World)(b:Nat)(S:Nat->Prop):Prop:=∃L,FL w b L/\∀x,x∈L↔S x
section
variable {w w':World} {b:Nat} {L:List Nat} {S S':Nat->Prop}
theorem zov(L:List Nat):(L.map fun x=>(x,())).map Prod.fst=L:=by rw[List.map_map];exact List.map_id _
theorem Z6.nodup'{D:DataW Unit}(h:Z6 D L):L.Nodup:=by have:=h.nodup;rwa [zov] at this
theorem Z6.ok'{D:DataW Unit}(h:Z6 D L){x:Nat}(hx:x∈L):UOk x:=h.oks (x,()) (List.mem_map_of_mem hx)
theorem FL.lt(h:FL w b L):b<w.heap.size:=by obtain⟨D,hD,_⟩:=h;exact hD.lt
theorem FL.grown{r:Option Nat}(h:FL w b L)(hg:w.grownBy w' r)(hr:some b≠r):FL w' b L:=by obtain⟨D,hD,hR⟩:=h;exact⟨D,hD.kept hg hr,hR⟩
theorem FL.below(h:FL w b L)(hb:zB w w'):FL w' b L:=by
 have hl:=h.lt;obtain⟨D,⟨es,clock,h1,h2⟩,hR⟩:=h;exact⟨D,⟨es,clock,(hb.block b hl).trans h1,h2⟩,hR⟩
theorem FL.made(w:World):FL (w.alloc (.map #[] 0)) w.heap.size []:=⟨.map [],World.ownsMap_made w _ _ _,Bd.Rep.empty⟩
theorem FL.nodup(h:FL w b L):L.Nodup:=by obtain⟨D,_,hR⟩:=h;exact Z6.nodup' hR
theorem FL.ok(h:FL w b L){x:Nat}(hx:x∈L):UOk x:=by obtain⟨D,_,hR⟩:=h;exact Z6.ok' hR hx
theorem FM.lt(h:FM w b S):b<w.heap.size:=by obtain⟨L,h,_⟩:=h;exact h.lt
theorem FM.grown{r:Option Nat}(h:FM w b S)(hg:w.grownBy w' r)(hr:some b≠r):FM w' b S:=by obtain⟨L,h,e⟩:=h;exact⟨L,h.grown hg hr,e⟩
theorem FM.below(h:FM w b S)(hb:zB w w'):FM w' b S:=by obtain⟨L,h,e⟩:=h;exact⟨L,h.below hb,e⟩
theorem FM.made(w:World):FM (w.alloc (.map #[] 0)) w.heap.size (fun _=>False):=⟨[],FL.made w,fun x=>by simp⟩
theorem FM.congr(h:FM w b S)(e:∀x,S x↔S' x):FM w b S':=by obtain⟨L,h,e'⟩:=h;exact⟨L,h,fun x=>(e' x).trans (e x)⟩
def RM(w:World)(b r:Nat)(S R:Nat->Prop)(cnt:Nat):Prop:=∃L D left,w.ranges Tryz.prog 68 zb3 b r L.length D left cnt/\Z6 D L/\(∀x,x∈L↔S x)/\(∀x,R x->S x)/\(∀x,UOk x->(left (zdm x)=true↔R x))/\(∀kl,left kl=true->Maps.has D kl=true)
theorem RM.fm{r cnt:Nat}{R:Nat->Prop}(h:RM w b r S R cnt):FM w b S:=by obtain⟨L,D,left,h1,h2,h3,_⟩:=h;exact⟨L,⟨D,h1.owns,h2⟩,h3⟩
theorem RM.ne{r cnt:Nat}{R:Nat->Prop}(h:RM w b r S R cnt):r≠b:=by obtain⟨L,D,left,h1,_⟩:=h;exact h1.ne
theorem RM.lt{r cnt:Nat}{R:Nat->Prop}(h:RM w b r S R cnt):r<w.heap.size:=by obtain⟨L,D,left,h1,_⟩:=h;exact h1.lt
theorem RM.grown{r cnt:Nat}{R:Nat->Prop}{row:Option Nat}(h:RM w b r S R cnt)(hg:w.grownBy w' row)(hb:some b≠row)(hr:some r≠row):RM w' b r S R cnt:=by obtain⟨L,D,left,h1,h2⟩:=h;exact⟨L,D,left,h1.kept hg hb hr,h2⟩
end
section
variable (w:World) {ops:Array Oper} {rest:List Oper} {o:Oper} {a:Act} {Q:Exit->Act->World->Prop}
end
end Fm
namespace Fm
open Go.RowKit Go.Maps Go.Proofs.YtapobpgbcbplbaaGreatDoor.Bd
theorem zeO{x k:Nat}(hx:x<64)(hk:6<=k):x.testBit k=false:=Nat.testBit_lt_two_pow (Nat.lt_of_lt_of_le hx (Nat.pow_le_pow_right (n:=2) (by omega) hk))
section
variable {S:Nat->Prop}
end
end Fm
namespace Fm
open Go.RowKit Go.Maps Go.Proofs.YtapobpgbcbplbaaGreatDoor.Bd
def Blk(W:World)(b:Nat)(t:TypeId)(cs:Array Value):Prop:=W.heap[b]?=some (.cells cs t (0,0))
theorem Blk.lt{W:World}{b:Nat}{t:TypeId}{cs:Array Value}(h:Blk W b t cs):b<W.heap.size:=(Array.getElem?_eq_some_iff.1 h).1
theorem Blk.cell{W:World}{b:Nat}{t:TypeId}{cs:Array Value}(h:Blk W b t cs)(i:Nat):W.cell? ⟨b,i,none⟩=cs[i]?:=by
 simp[World.cell?,show W.heap[b]?=_ from h]
theorem Blk.frozen{W:World}{b:Nat}{t:TypeId}{cs:Array Value}(h:Blk W b t cs)(i:Nat):W.frozen? ⟨b,i,none⟩=false:=by simp[World.frozen?,show W.heap[b]?=_ from h]
theorem Blk.new(W:World)(t:TypeId)(cs:Array Value):Blk (W.alloc (.cells cs t)) W.heap.size t cs:=World.alloc_heap_new W _
theorem Blk.kept{W W':World}{row:Option Nat}{b:Nat}{t:TypeId}{cs:Array Value}(h:Blk W b t cs)(hg:W.grownBy W' row)(hne:some b≠row):Blk W' b t cs:=(hg.block b h.lt hne).trans h
theorem Blk.alloc{W:World}{b:Nat}{t:TypeId}{cs:Array Value}(h:Blk W b t cs)(o:Obj):Blk (W.alloc o) b t cs:=h.kept (World.grownBy_alloc W o none) (by simp)
theorem Blk.below{B:Nat}{W W':World}{b:Nat}{t:TypeId}{cs:Array Value}(h:Blk W b t cs)(hb:Below B W W')(hB:b<B):Blk W' b t cs:=(hb.block b hB).trans h
theorem Blk.other{W:World}{b b' i:Nat}{t:TypeId}{cs:Array Value}{v:Value}(h:Blk W b t cs)(hne:b≠b'):Blk (W.setCell ⟨b',i,none⟩ v) b t cs:=(Below.heap_setCell _ _ _ b hne).trans h
theorem Blk.put{W:World}{b l:Nat}{t:TypeId}{cs:Array Value}{o':Obj}(h:Blk W b t cs)(hne:b≠l):Blk (W.putObj l o') b t cs:=(World.putObj_heap_other hne).trans h
theorem Blk.set{W:World}{b i:Nat}{t:TypeId}{cs:Array Value}{v:Value}(h:Blk W b t cs):Blk (W.setCell ⟨b,i,none⟩ v) b t (cs.setIfInBounds i v):=by
 obtain⟨hlt,hk⟩:=Array.getElem?_eq_some_iff.1 h;show (W.heap.modify b _)[b]?=_;rw[Array.getElem?_eq_getElem (by rw[Array.size_modify];exact hlt),Array.getElem_modify_self,hk];rfl
theorem zoU{B n:Nat}{w:World}{v:Value}{t:TypeId}{cs:List Value}(h:w.ownsRow B t 1 v n cs):∃a c,v=.slice a n c:=by
 rcases h.2 with ⟨e,e0⟩|⟨g,cap,cur,e,-⟩
 ·exact⟨none,0,by rw[e,e0]⟩
 ·exact⟨_,_,e⟩
theorem zkm{B:Nat}{w:World}{a:Option Addr}{c:Nat}{l:List Nat}(h:w.ownsRow B 68 1 (.slice a l.length c) l.length (yy l))(i:Nat)(hi:i<l.length):∃g,a=some ⟨g,0,none⟩/\w.cell? ⟨g,i,none⟩=some (.int .u64 (l.getD i 0:Nat)):=by
 rcases h.2 with ⟨e,e0⟩|⟨g,cap,cur,e,hB,hg,hn,hm,hsz,htake⟩
 ·omega
 ·cases e;refine⟨g,rfl,?_⟩;have:=h.cellAt i (by omega)
  rwa [zaC l i hi] at this
theorem RM.below{w w':World}{b r n cnt:Nat}{S R:Nat->Prop}(h:RM w b r S R cnt)(hb:Below n w w')(h1:b<n)(h2:r<n):RM w' b r S R cnt:=by
 obtain⟨L,D,left,⟨es,clock,since,seen,c0,e1,F,hs,hD,e2,rest⟩,h2'⟩:=h;exact⟨L,D,left,⟨es,clock,since,seen,c0,(hb.block b h1).trans e1,F,hs,hD,(hb.block r h2).trans e2,rest⟩,h2'⟩
end Fm
end Go.Proofs.YtapobpgbcbplbaaGreatDoor
