/- A node that is made: where it lies, and what is there then. -/
import Derived.Test.YtjmfeefogikdfaaGreatDoorArDrop
namespace Go.Proofs.YtjmfeefogikdfaaGreatDoor
set_option maxHeartbeats 4000000
set_option maxRecDepth 100000
namespace Bd
open Go.RowKit Go.Maps
structure Zv(ns:List Nd)(L:List (Nd × Int)):Prop where
 mem:∀p∈L,∃i:Nat,i<ns.length/\(nd ns i).v<24/\p=(nd ns i,2+(i:Int))
 all:∀i,i<ns.length->(nd ns i).v<24->(nd ns i,2+(i:Int))∈L
 nodup:(L.map Prod.fst).Nodup
 free:∀i,i<ns.length->¬(nd ns i).v<24->nd ns i=⟨24,0,0⟩
theorem XS{a b:List Nd}(hl:a.length=b.length)(h:∀i,i<a.length->nd a i=nd b i):a=b:=by
 apply List.ext_getElem hl;intro i h1 h2;have:=h i h1
 rwa [ZA a i h1,ZA b i h2] at this
theorem zb7(ns:List Nd)(k:Nat)(n:Nd)(i:Nat)(h:k<ns.length):nd (ns.set k n) i=if i=k then n else nd ns i:=by
 unfold nd;simp only[List.getD_eq_getElem?_getD,List.getElem?_set]
 by_cases e:k=i
 ·subst e;simp[h]
 ·rw[if_neg e,if_neg (fun h=>e h.symm)]
def Zk(ns:List Nd)(M:List Bool)(k:Nat):List Nd:=(List.range ns.length).map fun i=>if i<k/\mk M i=false then ⟨24,0,0⟩ else nd ns i
theorem xi(ns:List Nd)(M:List Bool)(k:Nat):(Zk ns M k).length=ns.length:=by simp[Zk]
theorem QV(ns:List Nd)(M:List Bool)(k i:Nat)(h:i<ns.length):nd (Zk ns M k) i=if i<k/\mk M i=false then ⟨24,0,0⟩ else nd ns i:=by
 rw[ZA _ i (by rw[xi];exact h)];simp[Zk]
theorem zlk(ns:List Nd)(M:List Bool):Zk ns M 0=ns :=
 XS (xi _ _ _) (fun i h=>by rw[QV ns M 0 i (by rwa [xi] at h),if_neg (by omega)])
theorem zjf(ns:List Nd)(M:List Bool):Zk ns M ns.length=qs ns M :=
 XS (by rw [xi,xW]) (fun i h=>by
  rw[xi] at h;rw[QV ns M _ i h,Qg ns M i h]
  by_cases e:mk M i=true
  ·rw[if_pos e,if_neg (by simp[e])]
  ·rw [if_neg e,if_pos ⟨h,by simpa using e⟩])
theorem zbb{ns:List Nd}{M:List Bool}{k:Nat}(_hk:k<ns.length)(h:mk M k=true\/nd ns k=⟨24,0,0⟩):Zk ns M (k+1)=Zk ns M k :=
 XS (by rw [xi,xi]) (fun i hi=>by
  rw[xi] at hi;rw[QV ns M _ i hi,QV ns M _ i hi]
  by_cases e:i=k
  ·subst e;rw[if_neg (show ¬(i<i/\mk M i=false) by omega)];rcases h with h|h
   ·rw[if_neg (by simp[h])]
   ·rw[h];split<;>rfl
  ·by_cases e2:i<k/\mk M i=false
   ·rw[if_pos e2,if_pos ⟨by omega,e2.2⟩]
   ·rw [if_neg e2,if_neg (fun h=>e2 ⟨by omega,h.2⟩)])
theorem zg7{ns:List Nd}{M:List Bool}{k:Nat}(hk:k<ns.length)(h:mk M k=false):(Zk ns M k).set k ⟨24,0,0⟩=Zk ns M (k+1) :=
 XS (by rw [List.length_set,xi,xi]) (fun i hi=>by
  rw[List.length_set,xi] at hi;rw[zb7 _ _ _ _ (by rw[xi];exact hk),QV ns M _ i hi,QV ns M _ i hi]
  by_cases e:i=k
  ·subst e;rw[if_pos rfl,if_pos ⟨by omega,h⟩]
  ·rw[if_neg e]
   by_cases e2:i<k/\mk M i=false
   ·rw[if_pos e2,if_pos ⟨by omega,e2.2⟩]
   ·rw [if_neg e2,if_neg (fun h=>e2 ⟨by omega,h.2⟩)])
def LTo(L:List (Nd × Int))(M:List Bool)(k:Nat):List (Nd × Int):=L.filter fun p=>decide (k<=(p.2-2).toNat)||mk M (p.2-2).toNat
theorem zgv(L:List (Nd × Int))(M:List Bool):LTo L M 0=L:=by
 unfold LTo;rw[List.filter_eq_self];intro p _;simp
theorem zdm{ns:List Nd}{L:List (Nd × Int)}{M:List Bool}{k:Nat}(hB:Zv ns L)(hk:k<ns.length)(h:mk M k=true\/¬(nd ns k).v<24):LTo L M (k+1)=LTo L M k:=by
 unfold LTo;apply List.filter_congr;intro p hp;obtain⟨i,hi,hv,rfl⟩:=hB.mem p hp;have e:(2+(i:Int)-2).toNat=i:=by omega
 simp only[e]
 by_cases e2:i=k
 ·subst e2;rcases h with h|h
  ·simp[h]
  ·exact absurd hv h
 ·congr 1;exact decide_eq_decide.2 (by omega)
theorem zns{ns:List Nd}{L:List (Nd × Int)}{M:List Bool}{k:Nat}(hB:Zv ns L)(hk:k<ns.length)(h:mk M k=false)(hv:(nd ns k).v<24):Jp (LTo L M k) (nd ns k)=LTo L M (k+1):=by
 unfold Jp LTo;rw[List.filter_filter];apply List.filter_congr;intro p hp;have hin:=hB.all k hk hv;obtain⟨i,hi,hvi,rfl⟩:=hB.mem p hp;have e:(2+(i:Int)-2).toNat=i:=by omega
 simp only[e]
 by_cases e2:i=k
 ·subst e2;simp[h]
 ·have hne:nd ns i≠nd ns k:=by
   intro he;obtain⟨x,hx,hxe⟩:=List.getElem_of_mem hp;obtain⟨y,hy,hye⟩:=List.getElem_of_mem hin;have:=(List.getElem_inj (h₀:=by simpa using hx) (h₁:=by simpa using hy) hB.nodup).1 (by simp[hxe,hye,he]);subst this;rw[hxe] at hye;have:=congrArg Prod.snd hye;simp at this;omega
  rw[decide_eq_true hne,Bool.true_and];congr 1;exact decide_eq_decide.2 (by omega)
theorem zk5{ns:List Nd}{L:List (Nd × Int)}{M:List Bool}{k:Nat}(hB:Zv ns L)(hk:k<ns.length)(hv:(nd ns k).v<24):(nd ns k,2+(k:Int))∈LTo L M k:=by
 unfold LTo;rw[List.mem_filter];exact⟨hB.all k hk hv,by simp;omega⟩
section
variable {B b bm:Nat} {v:Value} {ns:List Nd} {L:List (Nd × Int)} {room next:Int} {w:World}
theorem ziq(hr:qe ns)(hbk:Zv ns L)(hl:ns.length<=100000)(hA:zE B w b bm v ns L room next)(bf:Nat){cp:Nat}(fs:List Int)(hF:xN w bf fs)(hfl:fs.length<=1000)(hB:B<=w.heap.size)(hLl:L.length<=100000) :
  zC 91 #[.pointer (some ⟨b,0,none⟩),.slice (some ⟨bf,0,none⟩) fs.length cp] w fun e w'=>e=.returned (.int .i64 ((L.length:Int)-((LTo L (qq ns fs) ns.length).length:Int)))/\zE B w' b bm v (qs ns (qq ns fs)) (LTo L (qq ns fs) ns.length) room 2/\zb (Own b bm v) w w':=by
 have HC:=zH (zjI (cp:=cp) hr hl hA bf fs hF hfl hB);have hML:=zaP ns fs;generalize qq ns fs=M at *;have HML:=zH hML;have hg:¬Own b bm v w.heap.size:=by
  obtain⟨D,hD,-⟩:=hA.hmap;have hbm:=hD.lt;have hlt:=hA.lt;rintro (h|h|h)
  ·omega
  ·omega
  ·have:=(hA.row.lt _ h).2;omega
 have HLEN:=zH (XD hA);have HA:=zH hA;have HG:=zH hg;have HBK:=zH hbk;have HR:=zH hr;clear hA hF hr hML hg hbk;go_enter Tryz.func91,Tryz.ntmps91;go_wp2_with fail;refine HLEN.out.mono ?_;rintro e w0 ⟨rfl,rfl⟩;clear HLEN;go_wp2_with fail;refine HC.out.mono ?_;rintro e w1 ⟨rfl,hm1,hb1⟩;clear HC;have hA1:=HA.out.kept (zb.of_below hb1 (fun _=>False)) (fun _ _ h=>h);have hK1:=zb.of_below hb1 (Own b bm v);go_wp2_with fail;go_loopw [6,7,14] (fun _ _ i wr=>∃k:Nat,k<=ns.length/\i=.int .i64 k/\zE B wr b bm v (Zk ns M k) (LTo L M k) room next/\wr.ownsRow B 4 1 (.slice (some ⟨w.heap.size,0,none⟩) ns.length ns.length) ns.length (yF M)/\zb (Own b bm v) w wr)
  (fun _ _ i _=>ns.length-(intOf i).toNat)
 case atStart=>exact⟨0,Nat.zero_le _,rfl,by rw[zlk,zgv];exact hA1,hm1,hK1⟩
 case round =>
  obtain⟨k,hk,rfl,hAr,hmr,hKr⟩:=hrel;clear hA1 hK1 hm1 hb1
  by_cases hlt:k<ns.length
  ·have cm:=hmr.cellAt k (by omega);rw[zeX M k (by rw[HML.out];exact hlt)] at cm;have ib:(k:Int)<(ns.length:Int):=by omega
   by_cases hm:mk M k=true
   ·rw[hm] at cm;have E1:=zH (zbb hlt (.inl hm));have E2:=zH (zdm HBK.out hlt (.inl hm));have HAr:=zH hAr;have HKr:=zH hKr;have HM:=zH hmr;clear hm hAr hKr hmr;go_wp2;go_roundw
    case rel=>exact⟨k+1,by omega,by go_num,by rw[E1.out,E2.out];exact HAr.out,HM.out,HKr.out⟩
    case measure=>simp[intOf];omega
   ·have hm':mk M k=false:=by simpa using hm
    rw[hm'] at cm;have hnk:nd (Zk ns M k) k=nd ns k:=by rw[QV ns M k k hlt,if_neg (by omega)]
    have HAr:=zH hAr;have HKr:=zH hKr;have HM:=zH hmr;clear hAr hKr hmr
    by_cases hv:(nd ns k).v<24
    ·have HD:=zH (zk4 HAr.out (by rw[xi];exact hl) k (by rw[xi];exact hlt) (by rw[hnk];omega) (by rw[hnk];exact zk5 HBK.out hlt hv));rw[hnk,zg7 hlt hm',zns HBK.out hlt hm' hv] at HD;clear hm hm' hnk hv;go_wp2_with fail;refine HD.out.mono ?_;rintro e w2 ⟨rfl,hA2,hK2⟩;have hm2:=Yi HM.out hK2 (fun j hj h2=>by have hj2:w.heap.size=j:=Option.some.inj hj;exact HG.out (hj2▸h2));have hKK:=HKr.out.trans hK2;clear HD hK2 HAr;go_wp2;go_roundw
     case rel=>exact⟨k+1,by omega,by go_num,hA2,hm2,hKK⟩
     case measure=>simp[intOf];omega
    ·have E1:=zH (zbb (M:=M) hlt (.inr (HBK.out.free k hlt hv)));have E2:=zH (zdm (M:=M) HBK.out hlt (.inr hv));have HD:=zH (znw HAr.out (by rw[xi];exact hl) (2+(k:Int)) ⟨by omega,by omega⟩ (by rw[Qp (by rw[xi];exact hlt),hnk,HBK.out.free k hlt hv]));clear hm hm' hnk hv;go_wp2_with fail;refine HD.out.mono ?_;rintro e w2 ⟨rfl,hb2⟩;have hm2:=JI HM.out hb2;have hKK:=HKr.out.trans (zb.of_below hb2 _);have hA2:=HAr.out.kept (zb.of_below hb2 (fun _=>False)) (fun _ _ h=>h);clear HD hb2 HAr;go_wp2;go_roundw
     case rel=>exact⟨k+1,by omega,by go_num,by rw[E1.out,E2.out];exact hA2,hm2,hKK⟩
     case measure=>simp[intOf];omega
  ·obtain rfl:k=ns.length:=by omega
   rw[zjf] at hAr;have hA2:=hAr.setNext 2;have HLEN:=zH (XD hA2);have cnx:=hAr.cnext;have fnx:=hAr.froz 3;have HA2:=zH hA2;have hKK:=hKr.trans (zb.setCell (S:=Own b bm v) wr ⟨b,3,none⟩ (.int .i64 2) (.inl rfl));have hle:(LTo L M ns.length).length<=L.length:=List.length_filter_le _ _;have HK2:=zH hKK;obtain⟨q,hq⟩:∃q,q=(LTo L M ns.length).length:=⟨_,rfl⟩;rw[<-hq] at HLEN hle;have HQ:=zH hq;clear hq;clear hAr hA2 hKr hKK hmr;go_wp2_with fail;refine HLEN.out.mono ?_;rintro e w3 ⟨rfl,rfl⟩;go_wp2;go_ret;exact⟨by rw[<-HQ.out];rfl,HA2.out,HK2.out⟩
end
end Bd
namespace Bd
open Go.RowKit Go.Maps
theorem zaK(room:Int)(h0:0<=room)(h1:room<=4000)(w:World)(B:Nat)(hB:B<=w.heap.size) :
  zC 46 #[.int .i64 room] w fun e w'=>e=.returned (.tuple #[.pointer (some ⟨w.heap.size+1,0,none⟩),.nilIface])/\zE B w' (w.heap.size+1) w.heap.size (.slice none 0 0) [] [] room 2/\zB w w':=by
 have hmm:=@run_makeMap Tryz.prog;have hE:zE B ((w.alloc (.map #[] 0)).alloc (.cells #[.int .i64 room,.slice none 0 0,.map (some w.heap.size),.int .i64 2] 152)) (w.heap.size+1) w.heap.size (.slice none 0 0) [] [] room 2:=by
  have e1:(w.alloc (.map #[] 0)).heap.size=w.heap.size+1:=by simp
  have hm:((w.alloc (.map #[] 0)).alloc (.cells #[.int .i64 room,.slice none 0 0,.map (some w.heap.size),.int .i64 2] 152)).ownsMap Tryz.prog 82 (plainElem (H:=Unit) Tryz.prog 3) w.heap.size 0 (.map []):=(World.ownsMap_made w _ _ _).alloc _;refine⟨by simp,?_,?_,?_,?_,?_,World.ownsRow_nil _ _ _ _,⟨_,hm,Rep.empty⟩,by simp[Value.ownBlock],by omega,by simp[Value.ownBlock],by omega,hB⟩
  ·rw[<-e1];simp
  ·rw[<-e1];simp
  ·rw[<-e1];simp
  ·rw[<-e1];simp
  ·intro i;rw[<-e1];simp
 have hb:zB w ((w.alloc (.map #[] 0)).alloc (.cells #[.int .i64 room,.slice none 0 0,.map (some w.heap.size),.int .i64 2] 152)):=(zF.alloc zN _).alloc (by simp) _;have HE:=zH hE;clear hE;go_enter Tryz.func46,Tryz.ntmps46;go_wp2;go_ret2;exact⟨rfl,HE.out,hb⟩
end Bd
namespace Bd
open Go.RowKit Go.Maps
structure zaa(ns:List Nd):Prop where
 ranked:qe ns
 occ:∀j,j<ns.length->(nd ns j).v<24
 inj:∀i j,i<ns.length->j<ns.length->nd ns i=nd ns j->i=j
def zaB(ns:List Nd):List (Nd × Int):=(List.range ns.length).map fun i=>(nd ns i,2+(i:Int))
theorem zlr{ns:List Nd}{p:Nd × Int}:p∈zaB ns↔∃i:Nat,i<ns.length/\p=(nd ns i,2+(i:Int)):=by
 unfold zaB;simp only[List.mem_map,List.mem_range];constructor
 ·rintro⟨i,h,rfl⟩;exact⟨i,h,rfl⟩
 ·rintro⟨i,h,rfl⟩;exact⟨i,h,rfl⟩
theorem KE(ns:List Nd)(n:Nd)(i:Nat):nd (ns++[n]) i=if i<ns.length then nd ns i else if i=ns.length then n else ⟨0,0,0⟩:=by
 unfold nd;simp only[List.getD_eq_getElem?_getD]
 by_cases h:i<ns.length
 ·rw[if_pos h,List.getElem?_append_left h]
 ·rw[if_neg h,List.getElem?_append_right (by omega)]
  by_cases e:i=ns.length
  ·subst e;simp
  ·rw[if_neg e,List.getElem?_eq_none (by simp;omega)];rfl
theorem X8{ns:List Nd}{h:Int}(hh:zg ns h=true):h=0\/h=1\/za ns h<24:=by
 unfold zg at hh;simpa[or_assoc] using hh
theorem YH{ns:List Nd}{h:Int}(n:Nd)(hh:zg ns h=true):za (ns++[n]) h=za ns h:=by
 rcases X8 hh with rfl|rfl|ht
 ·simp[za]
 ·simp[za]
 ·obtain⟨b1,b2,b3⟩:=Z2 (by omega:za ns h≠24);unfold za;rw[if_pos (by rw[List.length_append];simp;omega),if_pos (by omega),KE,if_pos b2]
theorem XQ{ns:List Nd}{h:Int}(n:Nd)(hh:zg ns h=true):zg (ns++[n]) h=true:=by
 unfold zg;rw[YH n hh];exact hh
theorem zaa.snoc{ns:List Nd}{n:Nd}(hF:zaa ns)(hn:n.Ok)(hf:Fit ns n)(hnin:n∉(zaB ns).map Prod.fst):zaa (ns++[n]):=by
 have key:∀j,j<(ns++[n]).length->nd (ns++[n]) j=n/\j=ns.length\/j<ns.length/\nd (ns++[n]) j=nd ns j:=fun j hj=>by
  rw[List.length_append,List.length_singleton] at hj
  by_cases h:j<ns.length
  ·exact .inr ⟨h,by rw[KE,if_pos h]⟩
  ·exact .inl ⟨by rw[KE,if_neg h,if_pos (by omega)],by omega⟩
 have hne:∀i,i<ns.length->nd ns i≠n:=fun i hi e=>hnin (List.mem_map.2 ⟨(nd ns i,2+(i:Int)),zlr.2 ⟨i,hi,rfl⟩,e⟩);refine⟨⟨?_,?_,?_,?_⟩,?_,?_⟩
 ·intro j hj;rcases key j hj with ⟨e,-⟩|⟨h,e⟩
  ·rw[e];have:=hf.v0;have:=hf.v1;omega
  ·rw[e];exact hF.ranked.v0 j h
 ·intro j hj hv;rcases key j hj with ⟨e,-⟩|⟨h,e⟩
  ·rw[e];exact⟨by rw[YH n hf.l];exact hf.tl,XQ n hf.l⟩
  ·rw[e] at hv ⊢;have:=hF.ranked.l j h hv;exact⟨by rw[YH n this.2];exact this.1,XQ n this.2⟩
 ·intro j hj hv;rcases key j hj with ⟨e,-⟩|⟨h,e⟩
  ·rw[e];exact⟨by rw[YH n hf.h];exact hf.th,XQ n hf.h⟩
  ·rw[e] at hv ⊢;have:=hF.ranked.h j h hv;exact⟨by rw[YH n this.2];exact this.1,XQ n this.2⟩
 ·intro j hj;rcases key j hj with ⟨e,-⟩|⟨h,e⟩
  ·rw[e];exact hn
  ·rw[e];exact hF.ranked.ok j h
 ·intro j hj;rcases key j hj with ⟨e,-⟩|⟨h,e⟩
  ·rw[e];exact hf.v1
  ·rw[e];exact hF.occ j h
 ·intro i j hi hj he;rcases key i hi with ⟨e1,q1⟩|⟨h1,e1⟩<;>rcases key j hj with ⟨e2,q2⟩|⟨h2,e2⟩
  ·omega
  ·rw[e1,e2] at he;exact absurd he.symm (hne j h2)
  ·rw[e1,e2] at he;exact absurd he (hne i h1)
  ·rw[e1,e2] at he;exact hF.inj i j h1 h2 he
end Bd
namespace Bd
open Go.RowKit Go.Maps
def qo(ns:List Nd)(k:Nat)(n:Nd):List Nd:=(if k=ns.length then ns++[⟨24,0,0⟩] else ns).set k n
section
variable {ns:List Nd} {k:Nat} {n:Nd}
theorem Qd(hk:k<=ns.length)(i:Nat):i<(qo ns k n).length↔i<ns.length\/i=k:=by
 unfold qo;rw[List.length_set];split
 ·rw[List.length_append,List.length_singleton];omega
 ·omega
theorem JO(_hk:k<=ns.length):(qo ns k n).length<=ns.length+1/\ns.length<=(qo ns k n).length:=by
 unfold qo;rw[List.length_set];split
 ·rw[List.length_append,List.length_singleton];omega
 ·omega
theorem xL(hk:k<=ns.length)(i:Nat)(hi:i<ns.length\/i=k):nd (qo ns k n) i=if i=k then n else nd ns i:=by
 unfold qo;rw[zb7 _ _ _ _ (by split<;>(try simp)<;>omega)]
 by_cases e:i=k
 ·rw[if_pos e,if_pos e]
 ·rw[if_neg e,if_neg e];split
  ·rw[KE,if_pos (by omega)]
  ·rfl
theorem zdj(hk:k<=ns.length)(hfree:k<ns.length->¬(nd ns k).v<24){h:Int}(ht:za ns h<24):nd (qo ns k n) (h-2).toNat=nd ns (h-2).toNat/\za (qo ns k n) h=za ns h:=by
 obtain⟨b1,b2,b3⟩:=Z2 (by omega:za ns h≠24);have hne:(h-2).toNat≠k:=fun e=>by
  rw[b3,e] at ht;exact hfree (e▸b2) ht
 have h1:nd (qo ns k n) (h-2).toNat=nd ns (h-2).toNat:=by rw[xL hk _ (.inl b2),if_neg hne]
 refine⟨h1,?_⟩;have hl:=(Qd (n:=n) hk (h-2).toNat).2 (.inl b2);unfold za;rw[if_pos (by omega),if_pos (by omega),h1]
theorem Yr(hk:k<=ns.length)(hfree:k<ns.length->¬(nd ns k).v<24){h:Int}(hh:zg ns h=true):za (qo ns k n) h=za ns h:=by
 rcases X8 hh with rfl|rfl|ht
 ·simp[za]
 ·simp[za]
 ·exact(zdj hk hfree ht).2
theorem Xc(hk:k<=ns.length)(hfree:k<ns.length->¬(nd ns k).v<24){h:Int}(hh:zg ns h=true):zg (qo ns k n) h=true:=by
 unfold zg;rw[Yr hk hfree hh];exact hh
theorem zbI(hk:k<=ns.length):za (qo ns k n) (2+(k:Int))=n.v:=by
 rw[Qp ((Qd hk k).2 (.inr rfl)),xL hk k (.inr rfl),if_pos rfl]
theorem zmB(hr:qe ns)(hk:k<=ns.length)(hfree:k<ns.length->¬(nd ns k).v<24)(hn:n.Ok)(hf:Fit ns n):qe (qo ns k n):=by
 have key:∀j,j<(qo ns k n).length->nd (qo ns k n) j=n/\j=k\/j<ns.length/\nd (qo ns k n) j=nd ns j:=fun j hj=>by
  have hj':=(Qd hk j).1 hj
  by_cases e:j=k
  ·exact .inl ⟨by rw[xL hk j hj',if_pos e],e⟩
  ·exact .inr ⟨by omega,by rw[xL hk j hj',if_neg e]⟩
 refine⟨?_,?_,?_,?_⟩<;>intro j hj<;>rcases key j hj with ⟨e,-⟩|⟨hl,e⟩<;>rw[e]
 ·have:=hf.v0;have:=hf.v1;omega
 ·exact hr.v0 j hl
 ·intro _;rw[Yr hk hfree hf.l];exact⟨hf.tl,Xc hk hfree hf.l⟩
 ·intro hv;have:=hr.l j hl hv;rw[Yr hk hfree this.2];exact⟨this.1,Xc hk hfree this.2⟩
 ·intro _;rw[Yr hk hfree hf.h];exact⟨hf.th,Xc hk hfree hf.h⟩
 ·intro hv;have:=hr.h j hl hv;rw[Yr hk hfree this.2];exact⟨this.1,Xc hk hfree this.2⟩
 ·exact hn
 ·exact hr.ok j hl
theorem zlq{L:List (Nd × Int)}(hB:Zv ns L)(hk:k<=ns.length)(hfree:k<ns.length->¬(nd ns k).v<24)(hv:n.v<24)(hnin:n∉L.map Prod.fst):Zv (qo ns k n) (L++[(n,2+(k:Int))]):=by
 refine⟨fun p hp=>?_,fun i hi hvi=>?_,?_,fun i hi hvi=>?_⟩
 ·rcases List.mem_append.1 hp with hp|hp
  ·obtain⟨i,hi,hvi,rfl⟩:=hB.mem p hp;have hne:i≠k:=fun e=>by subst e;exact hfree hi hvi
   refine⟨i,(Qd hk i).2 (.inl hi),?_,?_⟩<;>rw[xL hk i (.inl hi),if_neg hne]
   exact hvi
  ·rw[List.mem_singleton] at hp;subst hp;refine⟨k,(Qd hk k).2 (.inr rfl),?_,?_⟩<;>rw[xL hk k (.inr rfl),if_pos rfl]
   exact hv
 ·have hi':=(Qd hk i).1 hi;rw[xL hk i hi'] at hvi ⊢
  by_cases e:i=k
  ·rw[if_pos e];subst e;simp
  ·rw[if_neg e] at hvi ⊢;exact List.mem_append.2 (.inl (hB.all i (by omega) hvi))
 ·rw[List.map_append,List.nodup_append];refine⟨hB.nodup,by simp,fun x hx y hy=>?_⟩;simp at hy;subst hy;exact fun e=>hnin (e▸hx)
 ·have hi':=(Qd hk i).1 hi;rw[xL hk i hi'] at hvi ⊢
  by_cases e:i=k
  ·rw[if_pos e] at hvi;exact absurd hv hvi
  ·rw[if_neg e] at hvi ⊢;exact hB.free i (by omega) hvi
end
end Bd
namespace Bd
open Go.RowKit Go.Maps
def pl(h:Int):Nat:=(h-2).toNat
def yr:Nat->List Nd->Int->(Nat->Bool)->Bool
 |0,_,h,_=>decide (h=1)
 |d+1,ns,h,f =>
  if za ns h=24 then decide (h=1)
  else if f (za ns h).toNat then yr d ns (nd ns (pl h)).h f else yr d ns (nd ns (pl h)).l f
def sem(ns:List Nd)(h:Int)(f:Nat->Bool):Bool:=yr 24 ns h f
structure zr(vars:Nat)(ns:List Nd):Prop where
 ranked:qe ns
 once:∀i j,i<ns.length->j<ns.length->(nd ns i).v<24->nd ns i=nd ns j->i=j
 red:∀i,i<ns.length->(nd ns i).v<24->(nd ns i).l≠(nd ns i).h
 vars:∀i,i<ns.length->(nd ns i).v<24->(nd ns i).v<(vars:Int)
 free:∀i,i<ns.length->¬(nd ns i).v<24->nd ns i=⟨24,0,0⟩
section
variable {ns:List Nd}
theorem yE{h:Int}(ht:za ns h≠24):2<=h/\pl h<ns.length/\za ns h=(nd ns (pl h)).v/\h=2+(pl h:Int):=by
 obtain⟨h1,h2,h3⟩:=Z2 ht;exact⟨h1,h2,h3,by unfold pl;omega⟩
theorem Q4(hr:qe ns){h:Int}(ht:za ns h≠24):za ns h<24:=by
 have:=(zY hr h).2;omega
theorem xx(hr:qe ns){h:Int}(ht:za ns h≠24):za ns h<za ns (nd ns (pl h)).l/\zg ns (nd ns (pl h)).l=true/\za ns h<za ns (nd ns (pl h)).h/\zg ns (nd ns (pl h)).h=true:=by
 obtain⟨h1,h2,h3,h4⟩:=yE ht;have hv:=Q4 hr ht;rw[h3] at hv ⊢;exact⟨(hr.l _ h2 hv).1,(hr.l _ h2 hv).2,(hr.h _ h2 hv).1,(hr.h _ h2 hv).2⟩
theorem QX{h:Int}(hh:zg ns h=true)(ht:za ns h=24):h=0\/h=1:=by
 rcases X8 hh with h1|h1|h1
 ·exact .inl h1
 ·exact .inr h1
 ·omega
theorem Ki(hr:qe ns)(f:Nat->Bool):∀(d e:Nat) (h:Int),24<=za ns h+d->24<=za ns h+e->yr d ns h f=yr e ns h f
 |0,0,h,_,_=>rfl
 |0,e+1,h,hd,_=>by
  have:=(zY hr h).2;unfold yr;rw[if_pos (by omega)]
 |d+1,0,h,_,he=>by
  have:=(zY hr h).2;unfold yr;rw[if_pos (by omega)]
 |d+1,e+1,h,hd,he=>by
  unfold yr
  by_cases ht:za ns h=24
  ·rw[if_pos ht,if_pos ht]
  ·rw[if_neg ht,if_neg ht];obtain⟨k1,-,k2,-⟩:=xx hr ht;rw[Ki hr f d e _ (by omega) (by omega),Ki hr f d e (nd ns (pl h)).l (by omega) (by omega)]
theorem Xo{h:Int}(ht:za ns h=24)(f:Nat->Bool):sem ns h f=decide (h=1):=by
 unfold sem yr;rw[if_pos ht]
theorem Zm(f:Nat->Bool):sem ns 0 f=false:=by rw[Xo (by simp[za])];rfl
theorem xZ(f:Nat->Bool):sem ns 1 f=true:=by rw[Xo (by simp[za])];rfl
theorem Qm(hr:qe ns){h:Int}(ht:za ns h≠24)(f:Nat->Bool):sem ns h f=if f (za ns h).toNat then sem ns (nd ns (pl h)).h f else sem ns (nd ns (pl h)).l f:=by
 obtain⟨k1,-,k2,-⟩:=xx hr ht;have h0:=(zY hr h).1;show yr 24 ns h f=_;unfold yr;rw[if_neg ht,Ki hr f 23 24 _ (by omega) (by omega),Ki hr f 23 24 (nd ns (pl h)).l (by omega) (by omega)];rfl
def loS(ns:List Nd)(h v:Int):Int:=if za ns h=v then (nd ns (pl h)).l else h
def hiS(ns:List Nd)(h v:Int):Int:=if za ns h=v then (nd ns (pl h)).h else h
theorem QE(hr:qe ns){h v:Int}(hv:v<24)(hh:zg ns h=true):zg ns (loS ns h v)=true/\(v<=za ns h->v<za ns (loS ns h v))/\za ns h<=za ns (loS ns h v):=by
 unfold loS
 by_cases e:za ns h=v
 ·rw[if_pos e];have:=xx hr (h:=h) (by omega);exact⟨this.2.1,fun _=>by omega,by omega⟩
 ·rw[if_neg e];exact⟨hh,fun h=>by omega,Int.le_refl _⟩
theorem QH(hr:qe ns){h v:Int}(hv:v<24)(hh:zg ns h=true):zg ns (hiS ns h v)=true/\(v<=za ns h->v<za ns (hiS ns h v))/\za ns h<=za ns (hiS ns h v):=by
 unfold hiS
 by_cases e:za ns h=v
 ·rw[if_pos e];have:=xx hr (h:=h) (by omega);exact⟨this.2.2.2,fun _=>by omega,by omega⟩
 ·rw[if_neg e];exact⟨hh,fun h=>by omega,Int.le_refl _⟩
theorem QJ(hr:qe ns){h v:Int}(hv:v<24)(f:Nat->Bool):sem ns h f=if f v.toNat then sem ns (hiS ns h v) f else sem ns (loS ns h v) f:=by
 unfold loS hiS
 by_cases e:za ns h=v
 ·rw[if_pos e,if_pos e,Qm hr (by omega),e]
 ·rw[if_neg e,if_neg e];split<;>rfl
theorem JV(hr:qe ns){f g:Nat->Bool}:∀(d:Nat) (h:Int),(∀i:Nat,za ns h<=(i:Int)->f i=g i)->yr d ns h f=yr d ns h g
 |0,_,_=>rfl
 |d+1,h,hfg=>by
  unfold yr
  by_cases ht:za ns h=24
  ·rw[if_pos ht,if_pos ht]
  ·rw[if_neg ht,if_neg ht];obtain⟨k1,-,k2,-⟩:=xx hr ht;have h0:=(zY hr h).1;rw[hfg (za ns h).toNat (by omega),JV hr d _ (fun i hi=>hfg i (by omega)),JV hr d (nd ns (pl h)).l (fun i hi=>hfg i (by omega))]
theorem QC(hr:qe ns){f g:Nat->Bool}{h:Int}(hfg:∀i:Nat,za ns h<=(i:Int)->f i=g i):sem ns h f=sem ns h g:=JV hr 24 h hfg
def turn(f:Nat->Bool)(v:Nat)(b:Bool):Nat->Bool:=fun i=>if i=v then b else f i
theorem Qr(f:Nat->Bool){v i:Nat}(b:Bool)(h:i≠v):turn f v b i=f i:=if_neg h
theorem XP(f:Nat->Bool)(v:Nat)(b:Bool):turn f v b v=b:=if_pos rfl
theorem zhO(hr:qe ns){a b v:Int}(hv0:0<=v)(hv:v<24)(ha:zg ns a=true)(hb:zg ns b=true)(hta:v<=za ns a)(htb:v<=za ns b)(h:∀f,sem ns a f=sem ns b f) :
  (∀f,sem ns (loS ns a v) f=sem ns (loS ns b v) f)/\(∀f,sem ns (hiS ns a v) f=sem ns (hiS ns b v) f):=by
 have la:=(QE hr hv ha).2.1 hta;have lb:=(QE hr hv hb).2.1 htb;have ga:=(QH hr hv ha).2.1 hta;have gb:=(QH hr hv hb).2.1 htb;refine⟨fun f=>?_,fun f=>?_⟩
 ·have:=h (turn f v.toNat false);rw[QJ hr hv,QJ (h:=b) hr hv] at this;rw[XP,if_neg (by simp),if_neg (by simp),QC hr (g:=f) (fun i hi=>Qr _ _ (by omega)),QC (h:=loS ns b v) hr (g:=f) (fun i hi=>Qr _ _ (by omega))] at this;exact this
 ·have:=h (turn f v.toNat true);rw[QJ hr hv,QJ (h:=b) hr hv] at this;rw[XP,if_pos rfl,if_pos rfl,QC hr (g:=f) (fun i hi=>Qr _ _ (by omega)),QC (h:=hiS ns b v) hr (g:=f) (fun i hi=>Qr _ _ (by omega))] at this;exact this
theorem zmx{a b:Nd}(h0:a.v=b.v)(h1:a.l=b.l)(h2:a.h=b.h):a=b:=by cases a;cases b;cases h0;cases h1;cases h2;rfl
theorem KF{vars:Nat}(hg:zr vars ns):∀(d:Nat) (a b:Int),24<=za ns a+d->24<=za ns b+d->zg ns a=true->zg ns b=true->(∀f,sem ns a f=sem ns b f)->a=b
 |0,a,b,da,db,ha,hb,h=>by
  have ta:=(zY hg.ranked a).2;have tb:=(zY hg.ranked b).2;have:=h (fun _=>false);rw[Xo (by omega),Xo (by omega)] at this;rcases QX ha (by omega) with rfl|rfl<;>rcases QX hb (by omega) with rfl|rfl<;>simp at this ⊢
 |d+1,a,b,da,db,ha,hb,h=>by
  have ta:=zY hg.ranked a;have tb:=zY hg.ranked b
  by_cases e:za ns a=24/\za ns b=24
  ·exact KF hg 0 a b (by omega) (by omega) ha hb h
  ·have hr:=hg.ranked;obtain⟨v,hv,hva,hvb,hve⟩:∃v,v<24/\v<=za ns a/\v<=za ns b/\(v=za ns a\/v=za ns b):=by
    rcases Int.lt_or_le (za ns a) (za ns b) with h1|h1
    ·exact⟨za ns a,by omega,by omega,by omega,.inl rfl⟩
    ·exact⟨za ns b,by omega,by omega,by omega,.inr rfl⟩
   have hv0:0<=v:=by omega
   obtain⟨sl,sh⟩:=zhO hr hv0 hv ha hb hva hvb h;have la:=QE hr hv ha;have lb:=QE hr hv hb;have ga:=QH hr hv ha;have gb:=QH hr hv hb;have e1:=KF hg d _ _ (by have:=la.2.1 hva;omega) (by have:=lb.2.1 hvb;omega) la.1 lb.1 sl;have e2:=KF hg d _ _ (by have:=ga.2.1 hva;omega) (by have:=gb.2.1 hvb;omega) ga.1 gb.1 sh
   by_cases ca:za ns a=v
   ·obtain⟨na1,na2,na3,na4⟩:=yE (ns:=ns) (h:=a) (by omega)
    by_cases cb:za ns b=v
    ·obtain⟨nb1,nb2,nb3,nb4⟩:=yE (ns:=ns) (h:=b) (by omega);unfold loS at e1;unfold hiS at e2;rw[if_pos ca,if_pos cb] at e1 e2;have:=hg.once (pl a) (pl b) na2 nb2 (by omega) (by
      have e0:(nd ns (pl a)).v=(nd ns (pl b)).v:=by omega
      exact zmx e0 e1 e2)
     rw[na4,nb4,this]
    ·unfold loS at e1;unfold hiS at e2;rw[if_pos ca,if_neg cb] at e1 e2;exact absurd (e1.trans e2.symm) (hg.red _ na2 (by omega))
   ·have cb:za ns b=v:=by omega
    obtain⟨nb1,nb2,nb3,nb4⟩:=yE (ns:=ns) (h:=b) (by omega);unfold loS at e1;unfold hiS at e2;rw[if_neg ca,if_pos cb] at e1 e2;exact absurd (e1.symm.trans e2) (hg.red _ nb2 (by omega))
theorem Kj{vars:Nat}(hg:zr vars ns){a b:Int}(ha:zg ns a=true)(hb:zg ns b=true)(h:∀f,sem ns a f=sem ns b f):a=b :=
 KF hg 24 a b (by have:=(zY hg.ranked a).1;omega) (by have:=(zY hg.ranked b).1;omega) ha hb h
structure Ext(ns ns':List Nd):Prop where
 has:∀h,zg ns h=true->zg ns' h=true
 top:∀h,zg ns h=true->za ns' h=za ns h
 node:∀h,zg ns h=true->za ns h≠24->nd ns' (pl h)=nd ns (pl h)
theorem Ext.refl(ns:List Nd):Ext ns ns:=⟨fun _ h=>h,fun _ _=>rfl,fun _ _ _=>rfl⟩
theorem Ext.trans{a b c:List Nd}(h:Ext a b)(k:Ext b c):Ext a c :=
 ⟨fun x hx=>k.has x (h.has x hx),fun x hx=>(k.top x (h.has x hx)).trans (h.top x hx),fun x hx ht=>(k.node x (h.has x hx) (by rw[h.top x hx];exact ht)).trans (h.node x hx ht)⟩
theorem JB{ns':List Nd}(hr:qe ns)(he:Ext ns ns')(f:Nat->Bool):∀(d:Nat) (h:Int),zg ns h=true->yr d ns' h f=yr d ns h f
 |0,_,_=>rfl
 |d+1,h,hh=>by
  unfold yr;rw[he.top h hh]
  by_cases ht:za ns h=24
  ·rw[if_pos ht,if_pos ht]
  ·obtain⟨-,k1,-,k2⟩:=xx hr ht;rw[if_neg ht,if_neg ht,he.node h hh ht,JB hr he f d _ k1,JB hr he f d _ k2]
theorem xC{ns':List Nd}(hr:qe ns)(he:Ext ns ns'){h:Int}(hh:zg ns h=true)(f:Nat->Bool):sem ns' h f=sem ns h f:=JB hr he f 24 h hh
theorem zhK{k:Nat}{n:Nd}(hk:k<=ns.length)(hfree:k<ns.length->¬(nd ns k).v<24)(hr:qe ns):Ext ns (qo ns k n) :=
 ⟨fun _ hh=>Xc hk hfree hh,fun _ hh=>Yr hk hfree hh,fun _ _ ht=>(zdj hk hfree (Q4 hr ht)).1⟩
end
end Bd
namespace Bd
open Go.RowKit Go.Maps
def qR(n:Nat):Nat->Bool:=fun i=>n.testBit i
theorem Xu(vals v:Nat)(hv:vals<18446744073709551616):(bits BinOp.and IntKind.u64 ((vals:Int)/2^v) 1==1)=qR vals v:=by
 have e:(vals:Int)/2^v=((vals/2^v:Nat):Int):=by simp
 have hd:vals/2^v<=vals:=Nat.div_le_self _ _;generalize hm:vals/2^v=m at *;rw[e,and_one_u64 _ (by omega) (by omega)];have hb:qR vals v=decide (m%2=1):=by unfold qR;rw[Nat.testBit_eq_decide_div_mod_eq,hm]
 rw[hb,Bool.eq_iff_iff];simp;omega
end Bd
namespace Bd
open Go.RowKit Go.Maps
def qg(ns:List Nd):Nat:=ns.findIdx fun n=>!decide (n.v<24)
def idx(ns:List Nd)(n:Nd):Nat:=ns.findIdx fun m=>decide (m=n)
def cnt(ns:List Nd):Nat:=(ns.filter fun n=>decide (n.v<24)).length
section
variable {ns:List Nd}
theorem Z7(ns:List Nd):qg ns<=ns.length:=List.findIdx_le_length
theorem zeQ{j:Nat}(h:j<qg ns):(nd ns j).v<24:=by
 have hl:j<ns.length:=Nat.lt_of_lt_of_le h (Z7 ns);have:=List.not_of_lt_findIdx h;rw[ZA ns j hl];simpa using this
theorem zaO(h:qg ns<ns.length):¬(nd ns (qg ns)).v<24:=by
 have:=List.findIdx_getElem (w:=h);rw[ZA ns _ h];unfold qg;simpa using this
theorem zmW{k:Nat}(hk:k<=ns.length)(ht:∀j,j<k->(nd ns j).v<24)(hf:k<ns.length->¬(nd ns k).v<24):k=qg ns:=by
 rcases Nat.lt_trichotomy k (qg ns) with h|h|h
 ·exact absurd (zeQ h) (hf (Nat.lt_of_lt_of_le h (Z7 ns)))
 ·exact h
 ·exact absurd (ht _ h) (zaO (by omega))
theorem Xq{n:Nd}(h:idx ns n<ns.length):nd ns (idx ns n)=n:=by
 have:=List.findIdx_getElem (w:=h);rw[ZA ns _ h];unfold idx;simpa using this
theorem zcq{n:Nd}(h:¬idx ns n<ns.length){j:Nat}(hj:j<ns.length):nd ns j≠n:=by
 have:j<idx ns n:=by omega
 have:=List.not_of_lt_findIdx this;rw[ZA ns j hj];simpa using this
def Zj(ns:List Nd)(n:Nd):List Nd × Int:=if idx ns n<ns.length then (ns,2+(idx ns n:Int)) else (qo ns (qg ns) n,2+(qg ns:Int))
def yd(ns:List Nd)(v l h:Int):List Nd × Int:=if l=h then (ns,l) else Zj ns ⟨v,l,h⟩
theorem zm6(ns:List Nd)(n:Nd):cnt (qo ns (qg ns) n)<=cnt ns+1:=by
 unfold cnt qo;have key:∀(l:List Nd) (k:Nat),((l.set k n).filter fun n=>decide (n.v<24)).length<=(l.filter fun n=>decide (n.v<24)).length+1:=by
  intro l
  induction l with
  |nil=>intro k;simp
  |cons a l ih =>
   intro k;cases k with
   |zero =>simp only[List.set_cons_zero,List.filter_cons];split<;>split<;>simp<;>omega
   |succ k =>
    simp only[List.set_cons_succ,List.filter_cons];have:=ih k;split
    ·simp only[List.length_cons];omega
    ·exact this
 refine Nat.le_trans (key _ _) ?_;split
 ·rw[List.filter_append];simp
 ·exact Nat.le_refl _
theorem zj0{vars:Nat}(hg:zr vars ns){n:Nd}(hn:n.Ok)(hf:Fit ns n)(hne:n.l≠n.h)(hv:n.v<(vars:Int))(hnin:∀j,j<ns.length->nd ns j≠n):zr vars (qo ns (qg ns) n):=by
 have hk:=Z7 ns;have hfr:qg ns<ns.length->¬(nd ns (qg ns)).v<24:=zaO;have key:∀j,j<(qo ns (qg ns) n).length->nd (qo ns (qg ns) n) j=n/\j=qg ns\/j<ns.length/\j≠qg ns/\nd (qo ns (qg ns) n) j=nd ns j:=fun j hj=>by
  have hj':=(Qd hk j).1 hj
  by_cases e:j=qg ns
  ·exact .inl ⟨by rw[xL hk j hj',if_pos e],e⟩
  ·exact .inr ⟨by omega,e,by rw[xL hk j hj',if_neg e]⟩
 refine⟨zmB hg.ranked hk hfr hn hf,fun i j hi hj hvi e=>?_,fun i hi hvi=>?_,fun i hi hvi=>?_,fun i hi hvi=>?_⟩
 ·rcases key i hi with ⟨e1,x1⟩|⟨l1,n1,e1⟩<;>rcases key j hj with ⟨e2,x2⟩|⟨l2,n2,e2⟩
  ·omega
  ·rw[e1,e2] at e;exact absurd e.symm (hnin j l2)
  ·rw[e1,e2] at e;exact absurd e (hnin i l1)
  ·rw[e1] at hvi;rw[e1,e2] at e;exact hg.once i j l1 l2 hvi e
 ·rcases key i hi with ⟨e1,-⟩|⟨l1,-,e1⟩<;>rw[e1] at hvi ⊢
  ·exact hne
  ·exact hg.red i l1 hvi
 ·rcases key i hi with ⟨e1,-⟩|⟨l1,-,e1⟩<;>rw[e1] at hvi ⊢
  ·exact hv
  ·exact hg.vars i l1 hvi
 ·rcases key i hi with ⟨e1,-⟩|⟨l1,-,e1⟩<;>rw[e1] at hvi ⊢
  ·exact absurd hf.v1 hvi
  ·exact hg.free i l1 hvi
theorem zid:∀(ns:List Nd),¬qg ns<ns.length->cnt ns=ns.length:=fun ns h=>by
 unfold cnt;rw[List.filter_eq_self.2];intro a ha;obtain⟨i,hi,rfl⟩:=List.getElem_of_mem ha;have:=zeQ (ns:=ns) (j:=i) (by have:=Z7 ns;omega);rw[ZA ns i hi] at this;simpa using this
theorem znD(ns:List Nd)(n:Nd):(qo ns (qg ns) n).length<=max ns.length (cnt ns+1):=by
 by_cases h:qg ns<ns.length
 ·have:(qo ns (qg ns) n).length=ns.length:=by unfold qo;rw[if_neg (by omega)];simp
  omega
 ·have h1:=zid ns h;have h2:=(JO (n:=n) (Z7 ns)).1;omega
structure zgy(vars:Nat)(ns:List Nd)(v l h:Int)(r:List Nd × Int):Prop where
 good:zr vars r.1
 ext:Ext ns r.1
 has:zg r.1 r.2=true
 sem:∀f,sem r.1 r.2 f=if f v.toNat then sem ns h f else sem ns l f
 top:v<=za r.1 r.2
 cnt:cnt r.1<=cnt ns+1
 len:r.1.length<=ns.length+1
 tight:r.1.length<=max ns.length (Go.Proofs.YtjmfeefogikdfaaGreatDoor.Bd.cnt ns+1)
 i64:I64 r.2
theorem yo{h:Int}(hh:zg ns h=true)(hl:ns.length<=1000000):I64 h:=by
 rcases X8 hh with rfl|rfl|ht
 ·exact⟨by omega,by omega⟩
 ·exact⟨by omega,by omega⟩
 ·obtain⟨h1,h2,-,h4⟩:=yE (ns:=ns) (h:=h) (by omega);exact⟨by omega,by omega⟩
theorem QZ{vars:Nat}(hg:zr vars ns){v l h:Int}(hl:ns.length<=900000)(h0:0<=v)(h24:v<24)(hv:v<(vars:Int))(hl1:zg ns l=true)(hh1:zg ns h=true)(tl:v<za ns l)(th:v<za ns h):zgy vars ns v l h (yd ns v l h):=by
 unfold yd
 by_cases e:l=h
 ·rw[if_pos e];subst e;exact⟨hg,Ext.refl _,hl1,fun f=>by split<;>rfl,by show v<=za ns l;omega,Nat.le_succ _,Nat.le_succ _,Nat.le_max_left _ _,yo hl1 (by omega)⟩
 ·rw[if_neg e];unfold Zj;have hi1:=yo hl1 (by omega);have hi2:=yo hh1 (by omega)
  by_cases c:idx ns ⟨v,l,h⟩<ns.length
  ·rw[if_pos c];have ha:=Xq c;have ht:za ns (2+(idx ns ⟨v,l,h⟩:Int))=v:=by rw[Qp c,ha]
   have hp:pl (2+(idx ns ⟨v,l,h⟩:Int))=idx ns ⟨v,l,h⟩:=by unfold pl;omega
   refine⟨hg,Ext.refl _,?_,fun f=>?_,?_,Nat.le_succ _,Nat.le_succ _,Nat.le_max_left _ _,⟨by show _<=(2+_:Int);omega,by show (2+_:Int)<=_;omega⟩⟩
   ·show zg ns _=true;unfold zg;rw[ht];simp[h24]
   ·show Go.Proofs.YtjmfeefogikdfaaGreatDoor.Bd.sem ns _ f=_;rw[Qm hg.ranked (by rw[ht];omega),ht,hp,ha]
   ·show v<=za ns (2+(idx ns ⟨v,l,h⟩:Int));omega
  ·rw[if_neg c];have hnin:∀j,j<ns.length->nd ns j≠⟨v,l,h⟩:=fun j hj=>zcq c hj;have hf:Fit ns ⟨v,l,h⟩:=⟨h0,h24,hl1,hh1,tl,th⟩;have hgp:=zj0 hg ⟨⟨by show _<=v;omega,by show v<=_;omega⟩,hi1,hi2⟩ hf e hv hnin;have hk:=Z7 ns;have hx:Ext ns (qo ns (qg ns) ⟨v,l,h⟩):=zhK hk zaO hg.ranked;have ht:za (qo ns (qg ns) ⟨v,l,h⟩) (2+(qg ns:Int))=v:=zbI hk;have hp:pl (2+(qg ns:Int))=qg ns:=by unfold pl;omega
   refine⟨hgp,hx,?_,fun f=>?_,?_,zm6 _ _,(JO hk).1,znD _ _,⟨by show _<=(2+_:Int);omega,by show (2+_:Int)<=_;omega⟩⟩
   ·show zg _ _=true;unfold zg;rw[ht];simp[h24]
   ·show Go.Proofs.YtjmfeefogikdfaaGreatDoor.Bd.sem _ _ f=_;rw[Qm hgp.ranked (by rw[ht];omega),ht,hp,xL hk _ (.inr rfl),if_pos rfl,xC hg.ranked hx hl1,xC hg.ranked hx hh1]
   ·show v<=za (qo ns (qg ns) ⟨v,l,h⟩) (2+(qg ns:Int));omega
end
end Bd
end Go.Proofs.YtjmfeefogikdfaaGreatDoor
