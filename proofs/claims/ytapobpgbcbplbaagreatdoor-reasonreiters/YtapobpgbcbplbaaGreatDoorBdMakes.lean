/- What a function makes of handles: of three ends at once, else by the least variable. -/
import Derived.Test.YtapobpgbcbplbaaGreatDoorArDrop
namespace Go.Proofs.YtapobpgbcbplbaaGreatDoor
set_option maxHeartbeats 4000000
set_option maxRecDepth 100000
namespace Bd
open Go.RowKit Go.Maps
structure xV(ns:List Nd)(L:List (Nd × Int)):Prop where
  mem:∀p∈L,∃i:Nat,i<ns.length/\(nd ns i).v<24/\p=(nd ns i,2+(i:Int))
  all:∀i,i<ns.length->(nd ns i).v<24->(nd ns i,2+(i:Int))∈L
  nodup:(L.map Prod.fst).Nodup
  free:∀i,i<ns.length->¬(nd ns i).v<24->nd ns i=⟨24,0,0⟩
theorem KD{a b:List Nd}(hl:a.length=b.length)(h:∀i,i<a.length->nd a i=nd b i):a=b:=by
  apply List.ext_getElem hl;intro i h1 h2;have:=h i h1
  rwa [xS a i h1,xS b i h2] at this
theorem ze0(ns:List Nd)(k:Nat)(n:Nd)(i:Nat)(h:k<ns.length):nd (ns.set k n) i=if i=k then n else nd ns i:=by
  unfold nd;simp only[List.getD_eq_getElem?_getD,List.getElem?_set]
  by_cases e:k=i
  · subst e;simp[h]
  · rw[if_neg e,if_neg (fun h=>e h.symm)]
def xQ(ns:List Nd)(M:List Bool)(k:Nat):List Nd:=(List.range ns.length).map fun i=>if i<k/\mk M i=false then ⟨24,0,0⟩ else nd ns i
theorem yS(ns:List Nd)(M:List Bool)(k:Nat):(xQ ns M k).length=ns.length:=by simp[xQ]
theorem Qd(ns:List Nd)(M:List Bool)(k i:Nat)(h:i<ns.length):nd (xQ ns M k) i=if i<k/\mk M i=false then ⟨24,0,0⟩ else nd ns i:=by
  rw[xS _ i (by rw[yS];exact h)];simp[xQ]
theorem zfD(ns:List Nd)(M:List Bool):xQ ns M 0=ns :=
  KD (yS _ _ _) (fun i h=>by rw[Qd ns M 0 i (by rwa [yS] at h),if_neg (by omega)])
theorem zhs(ns:List Nd)(M:List Bool):xQ ns M ns.length=swept ns M :=
  KD (by rw [yS,xR]) (fun i h=>by
    rw[yS] at h;rw[Qd ns M _ i h,Z4 ns M i h]
    by_cases e:mk M i=true
    · rw[if_pos e,if_neg (by simp[e])]
    · rw [if_neg e,if_pos ⟨h,by simpa using e⟩])
theorem zcg{ns:List Nd}{M:List Bool}{k:Nat}(_hk:k<ns.length)(h:mk M k=true\/nd ns k=⟨24,0,0⟩):xQ ns M (k+1)=xQ ns M k :=
  KD (by rw [yS,yS]) (fun i hi=>by
    rw[yS] at hi;rw[Qd ns M _ i hi,Qd ns M _ i hi]
    by_cases e:i=k
    · subst e
      rw[if_neg (show ¬(i<i/\mk M i=false) by omega)];rcases h with h|h
      · rw[if_neg (by simp[h])]
      · rw[h];split<;>rfl
    · by_cases e2:i<k/\mk M i=false
      · rw[if_pos e2,if_pos ⟨by omega,e2.2⟩]
      · rw [if_neg e2,if_neg (fun h=>e2 ⟨by omega,h.2⟩)])
theorem zi7{ns:List Nd}{M:List Bool}{k:Nat}(hk:k<ns.length)(h:mk M k=false):(xQ ns M k).set k ⟨24,0,0⟩=xQ ns M (k+1) :=
  KD (by rw [List.length_set,yS,yS]) (fun i hi=>by
    rw[List.length_set,yS] at hi;rw[ze0 _ _ _ _ (by rw[yS];exact hk),Qd ns M _ i hi,Qd ns M _ i hi]
    by_cases e:i=k
    · subst e;rw[if_pos rfl,if_pos ⟨by omega,h⟩]
    · rw[if_neg e]
      by_cases e2:i<k/\mk M i=false
      · rw[if_pos e2,if_pos ⟨by omega,e2.2⟩]
      · rw [if_neg e2,if_neg (fun h=>e2 ⟨by omega,h.2⟩)])
def LTo(L:List (Nd × Int))(M:List Bool)(k:Nat):List (Nd × Int):=L.filter fun p=>decide (k<=(p.2-2).toNat)||mk M (p.2-2).toNat
theorem zjf(L:List (Nd × Int))(M:List Bool):LTo L M 0=L:=by
  unfold LTo;rw[List.filter_eq_self];intro p _;simp
theorem zea{ns:List Nd}{L:List (Nd × Int)}{M:List Bool}{k:Nat}(hB:xV ns L)(hk:k<ns.length)(h:mk M k=true\/¬(nd ns k).v<24):LTo L M (k+1)=LTo L M k:=by
  unfold LTo;apply List.filter_congr;intro p hp;obtain⟨i,hi,hv,rfl⟩:=hB.mem p hp;have e:(2+(i:Int)-2).toNat=i:=by omega
  simp only[e]
  by_cases e2:i=k
  · subst e2
    rcases h with h|h
    · simp[h]
    · exact absurd hv h
  · congr 1
    exact decide_eq_decide.2 (by omega)
theorem zjS{ns:List Nd}{L:List (Nd × Int)}{M:List Bool}{k:Nat}(hB:xV ns L)(hk:k<ns.length)(h:mk M k=false)(hv:(nd ns k).v<24):J9 (LTo L M k) (nd ns k)=LTo L M (k+1):=by
  unfold J9 LTo;rw[List.filter_filter];apply List.filter_congr;intro p hp;have hin:=hB.all k hk hv;obtain⟨i,hi,hvi,rfl⟩:=hB.mem p hp;have e:(2+(i:Int)-2).toNat=i:=by omega
  simp only[e]
  by_cases e2:i=k
  · subst e2
    simp[h]
  · have hne:nd ns i≠nd ns k:=by
      intro he;obtain⟨x,hx,hxe⟩:=List.getElem_of_mem hp;obtain⟨y,hy,hye⟩:=List.getElem_of_mem hin;have:=(List.getElem_inj (h₀:=by simpa using hx) (h₁:=by simpa using hy) hB.nodup).1 (by simp[hxe,hye,he]);subst this;rw[hxe] at hye;have:=congrArg Prod.snd hye;simp at this;omega
    rw[decide_eq_true hne,Bool.true_and];congr 1;exact decide_eq_decide.2 (by omega)
theorem zgp{ns:List Nd}{L:List (Nd × Int)}{M:List Bool}{k:Nat}(hB:xV ns L)(hk:k<ns.length)(hv:(nd ns k).v<24):(nd ns k,2+(k:Int))∈LTo L M k:=by
  unfold LTo;rw[List.mem_filter];exact⟨hB.all k hk hv,by simp;omega⟩
section
variable {B b bm:Nat} {v:Value} {ns:List Nd} {L:List (Nd × Int)} {room next:Int} {w:World}
theorem zmw(hr:zw ns)(hbk:xV ns L)(hl:ns.length<=100000)(hA:zM B w b bm v ns L room next)(bf:Nat){cp:Nat}(fs:List Int)(hF:xG w bf fs)(hfl:fs.length<=1000)(hB:B<=w.heap.size)(hLl:L.length<=100000) :
    zC 70 #[.pointer (some ⟨b,0,none⟩),.slice (some ⟨bf,0,none⟩) fs.length cp] w fun e w'=>e=.returned (.int .i64 ((L.length:Int)-((LTo L (qc ns fs) ns.length).length:Int)))/\zM B w' b bm v (swept ns (qc ns fs)) (LTo L (qc ns fs) ns.length) room 2/\zc (Own b bm v) w w':=by
  have HC:=zH (zlT (cp:=cp) hr hl hA bf fs hF hfl hB);have hML:=zc9 ns fs;generalize qc ns fs=M at *;have HML:=zH hML;have hg:¬Own b bm v w.heap.size:=by
    obtain⟨D,hD,-⟩:=hA.hmap;have hbm:=hD.lt;have hlt:=hA.lt;rintro (h|h|h)
    · omega
    · omega
    · have:=(hA.row.lt _ h).2;omega
  have HLEN:=zH (KW hA);have HA:=zH hA;have HG:=zH hg;have HBK:=zH hbk;have HR:=zH hr;clear hA hF hr hML hg hbk;go_enter Tryz.func70,Tryz.ntmps70;go_wp2_with fail;refine HLEN.out.mono ?_;rintro e w0 ⟨rfl,rfl⟩;clear HLEN;go_wp2_with fail;refine HC.out.mono ?_;rintro e w1 ⟨rfl,hm1,hb1⟩;clear HC;have hA1:=HA.out.kept (zc.of_below hb1 (fun _=>False)) (fun _ _ h=>h);have hK1:=zc.of_below hb1 (Own b bm v);go_wp2_with fail;go_loopw [6,7,14] (fun _ _ i wr=>∃k:Nat,k<=ns.length/\i=.int .i64 k/\zM B wr b bm v (xQ ns M k) (LTo L M k) room next/\wr.ownsRow B 4 1 (.slice (some ⟨w.heap.size,0,none⟩) ns.length ns.length) ns.length (yw M)/\zc (Own b bm v) w wr)
    (fun _ _ i _=>ns.length-(intOf i).toNat)
  case atStart=>exact⟨0,Nat.zero_le _,rfl,by rw[zfD,zjf];exact hA1,hm1,hK1⟩
  case round =>
    obtain⟨k,hk,rfl,hAr,hmr,hKr⟩:=hrel;clear hA1 hK1 hm1 hb1
    by_cases hlt:k<ns.length
    · have cm:=hmr.cellAt k (by omega)
      rw[zcb M k (by rw[HML.out];exact hlt)] at cm;have ib:(k:Int)<(ns.length:Int):=by omega
      by_cases hm:mk M k=true
      · rw[hm] at cm
        have E1:=zH (zcg hlt (.inl hm));have E2:=zH (zea HBK.out hlt (.inl hm));have HAr:=zH hAr;have HKr:=zH hKr;have HM:=zH hmr;clear hm hAr hKr hmr;go_wp2;go_roundw
        case rel=>exact⟨k+1,by omega,by go_num,by rw[E1.out,E2.out];exact HAr.out,HM.out,HKr.out⟩
        case measure=>simp[intOf];omega
      · have hm':mk M k=false:=by simpa using hm
        rw[hm'] at cm;have hnk:nd (xQ ns M k) k=nd ns k:=by rw[Qd ns M k k hlt,if_neg (by omega)]
        have HAr:=zH hAr;have HKr:=zH hKr;have HM:=zH hmr;clear hAr hKr hmr
        by_cases hv:(nd ns k).v<24
        · have HD:=zH (zje HAr.out (by rw[yS];exact hl) k (by rw[yS];exact hlt) (by rw[hnk];omega) (by rw[hnk];exact zgp HBK.out hlt hv))
          rw[hnk,zi7 hlt hm',zjS HBK.out hlt hm' hv] at HD;clear hm hm' hnk hv;go_wp2_with fail;refine HD.out.mono ?_;rintro e w2 ⟨rfl,hA2,hK2⟩;have hm2:=Zp HM.out hK2 (fun j hj h2=>by have hj2:w.heap.size=j:=Option.some.inj hj;exact HG.out (hj2▸h2));have hKK:=HKr.out.trans hK2;clear HD hK2 HAr;go_wp2;go_roundw
          case rel=>exact⟨k+1,by omega,by go_num,hA2,hm2,hKK⟩
          case measure=>simp[intOf];omega
        · have E1:=zH (zcg (M:=M) hlt (.inr (HBK.out.free k hlt hv)))
          have E2:=zH (zea (M:=M) HBK.out hlt (.inr hv));have HD:=zH (zly HAr.out (by rw[yS];exact hl) (2+(k:Int)) ⟨by omega,by omega⟩ (by rw[QI (by rw[yS];exact hlt),hnk,HBK.out.free k hlt hv]));clear hm hm' hnk hv;go_wp2_with fail;refine HD.out.mono ?_;rintro e w2 ⟨rfl,hb2⟩;have hm2:=zao HM.out hb2;have hKK:=HKr.out.trans (zc.of_below hb2 _);have hA2:=HAr.out.kept (zc.of_below hb2 (fun _=>False)) (fun _ _ h=>h);clear HD hb2 HAr;go_wp2;go_roundw
          case rel=>exact⟨k+1,by omega,by go_num,by rw[E1.out,E2.out];exact hA2,hm2,hKK⟩
          case measure=>simp[intOf];omega
    · obtain rfl:k=ns.length:=by omega
      rw[zhs] at hAr;have hA2:=hAr.setNext 2;have HLEN:=zH (KW hA2);have cnx:=hAr.cnext;have fnx:=hAr.froz 3;have HA2:=zH hA2;have hKK:=hKr.trans (zc.setCell (S:=Own b bm v) wr ⟨b,3,none⟩ (.int .i64 2) (.inl rfl));have hle:(LTo L M ns.length).length<=L.length:=List.length_filter_le _ _;have HK2:=zH hKK;obtain⟨q,hq⟩:∃q,q=(LTo L M ns.length).length:=⟨_,rfl⟩;rw[<-hq] at HLEN hle;have HQ:=zH hq;clear hq;clear hAr hA2 hKr hKK hmr;go_wp2_with fail;refine HLEN.out.mono ?_;rintro e w3 ⟨rfl,rfl⟩;go_wp2;go_ret;exact⟨by rw[<-HQ.out];rfl,HA2.out,HK2.out⟩
end
end Bd
namespace Bd
open Go.RowKit Go.Maps
theorem KL(room:Int)(h0:0<=room)(h1:room<=4000)(w:World)(B:Nat)(hB:B<=w.heap.size) :
    zC 40 #[.int .i64 room] w fun e w'=>e=.returned (.tuple #[.pointer (some ⟨w.heap.size+1,0,none⟩),.nilIface])/\zM B w' (w.heap.size+1) w.heap.size (.slice none 0 0) [] [] room 2/\zB w w':=by
  have hmm:=@run_makeMap Tryz.prog;have hE:zM B ((w.alloc (.map #[] 0)).alloc (.cells #[.int .i64 room,.slice none 0 0,.map (some w.heap.size),.int .i64 2] 144)) (w.heap.size+1) w.heap.size (.slice none 0 0) [] [] room 2:=by
    have e1:(w.alloc (.map #[] 0)).heap.size=w.heap.size+1:=by simp
    have hm:((w.alloc (.map #[] 0)).alloc (.cells #[.int .i64 room,.slice none 0 0,.map (some w.heap.size),.int .i64 2] 144)).ownsMap Tryz.prog 166 (plainElem (H:=Unit) Tryz.prog 3) w.heap.size 0 (.map []):=(World.ownsMap_made w _ _ _).alloc _;refine⟨by simp,?_,?_,?_,?_,?_,World.ownsRow_nil _ _ _ _,⟨_,hm,Rep.empty⟩,by simp[Value.ownBlock],by omega,by simp[Value.ownBlock],by omega,hB⟩
    · rw[<-e1];simp
    · rw[<-e1];simp
    · rw[<-e1];simp
    · rw[<-e1];simp
    · intro i;rw[<-e1];simp
  have hb:zB w ((w.alloc (.map #[] 0)).alloc (.cells #[.int .i64 room,.slice none 0 0,.map (some w.heap.size),.int .i64 2] 144)):=(zF.alloc zN _).alloc (by simp) _;have HE:=zH hE;clear hE;go_enter Tryz.func40,Tryz.ntmps40;go_wp2;go_ret2;exact⟨rfl,HE.out,hb⟩
end Bd
namespace Bd
open Go.RowKit Go.Maps
structure zaX(ns:List Nd):Prop where
  ranked:zw ns
  occ:∀j,j<ns.length->(nd ns j).v<24
  inj:∀i j,i<ns.length->j<ns.length->nd ns i=nd ns j->i=j
def Jm(ns:List Nd):List (Nd × Int):=(List.range ns.length).map fun i=>(nd ns i,2+(i:Int))
theorem zmC{ns:List Nd}{p:Nd × Int}:p∈Jm ns↔∃i:Nat,i<ns.length/\p=(nd ns i,2+(i:Int)):=by
  unfold Jm;simp only[List.mem_map,List.mem_range];constructor
  · rintro⟨i,h,rfl⟩;exact⟨i,h,rfl⟩
  · rintro⟨i,h,rfl⟩;exact⟨i,h,rfl⟩
theorem Xs(ns:List Nd)(n:Nd)(i:Nat):nd (ns++[n]) i=if i<ns.length then nd ns i else if i=ns.length then n else ⟨0,0,0⟩:=by
  unfold nd;simp only[List.getD_eq_getElem?_getD]
  by_cases h:i<ns.length
  · rw[if_pos h,List.getElem?_append_left h]
  · rw[if_neg h,List.getElem?_append_right (by omega)]
    by_cases e:i=ns.length
    · subst e;simp
    · rw[if_neg e,List.getElem?_eq_none (by simp;omega)];rfl
theorem Xc{ns:List Nd}{h:Int}(hh:ze ns h=true):h=0\/h=1\/zb ns h<24:=by
  unfold ze at hh;simpa[or_assoc] using hh
theorem Y3{ns:List Nd}{h:Int}(n:Nd)(hh:ze ns h=true):zb (ns++[n]) h=zb ns h:=by
  rcases Xc hh with rfl|rfl|ht
  · simp[zb]
  · simp[zb]
  · obtain⟨b1,b2,b3⟩:=Z2 (by omega:zb ns h≠24)
    unfold zb;rw[if_pos (by rw[List.length_append];simp;omega),if_pos (by omega),Xs,if_pos b2]
theorem Kl{ns:List Nd}{h:Int}(n:Nd)(hh:ze ns h=true):ze (ns++[n]) h=true:=by
  unfold ze;rw[Y3 n hh];exact hh
theorem zaX.snoc{ns:List Nd}{n:Nd}(hF:zaX ns)(hn:n.Ok)(hf:Fit ns n)(hnin:n∉(Jm ns).map Prod.fst):zaX (ns++[n]):=by
  have key:∀j,j<(ns++[n]).length->nd (ns++[n]) j=n/\j=ns.length\/j<ns.length/\nd (ns++[n]) j=nd ns j:=fun j hj=>by
    rw[List.length_append,List.length_singleton] at hj
    by_cases h:j<ns.length
    · exact .inr ⟨h,by rw[Xs,if_pos h]⟩
    · exact .inl ⟨by rw[Xs,if_neg h,if_pos (by omega)],by omega⟩
  have hne:∀i,i<ns.length->nd ns i≠n:=fun i hi e=>hnin (List.mem_map.2 ⟨(nd ns i,2+(i:Int)),zmC.2 ⟨i,hi,rfl⟩,e⟩);refine⟨⟨?_,?_,?_,?_⟩,?_,?_⟩
  · intro j hj
    rcases key j hj with ⟨e,-⟩|⟨h,e⟩
    · rw[e];have:=hf.v0;have:=hf.v1;omega
    · rw[e];exact hF.ranked.v0 j h
  · intro j hj hv
    rcases key j hj with ⟨e,-⟩|⟨h,e⟩
    · rw[e];exact⟨by rw[Y3 n hf.l];exact hf.tl,Kl n hf.l⟩
    · rw[e] at hv ⊢
      have:=hF.ranked.l j h hv;exact⟨by rw[Y3 n this.2];exact this.1,Kl n this.2⟩
  · intro j hj hv
    rcases key j hj with ⟨e,-⟩|⟨h,e⟩
    · rw[e];exact⟨by rw[Y3 n hf.h];exact hf.th,Kl n hf.h⟩
    · rw[e] at hv ⊢
      have:=hF.ranked.h j h hv;exact⟨by rw[Y3 n this.2];exact this.1,Kl n this.2⟩
  · intro j hj
    rcases key j hj with ⟨e,-⟩|⟨h,e⟩
    · rw[e];exact hn
    · rw[e];exact hF.ranked.ok j h
  · intro j hj
    rcases key j hj with ⟨e,-⟩|⟨h,e⟩
    · rw[e];exact hf.v1
    · rw[e];exact hF.occ j h
  · intro i j hi hj he
    rcases key i hi with ⟨e1,q1⟩|⟨h1,e1⟩<;>rcases key j hj with ⟨e2,q2⟩|⟨h2,e2⟩
    · omega
    · rw[e1,e2] at he;exact absurd he.symm (hne j h2)
    · rw[e1,e2] at he;exact absurd he (hne i h1)
    · rw[e1,e2] at he;exact hF.inj i j h1 h2 he
end Bd
namespace Bd
open Go.RowKit Go.Maps
def zY(ns:List Nd)(k:Nat)(n:Nd):List Nd:=(if k=ns.length then ns++[⟨24,0,0⟩] else ns).set k n
section
variable {ns:List Nd} {k:Nat} {n:Nd}
theorem ZL(hk:k<=ns.length)(i:Nat):i<(zY ns k n).length↔i<ns.length\/i=k:=by
  unfold zY;rw[List.length_set];split
  · rw[List.length_append,List.length_singleton];omega
  · omega
theorem zeg(_hk:k<=ns.length):(zY ns k n).length<=ns.length+1/\ns.length<=(zY ns k n).length:=by
  unfold zY;rw[List.length_set];split
  · rw[List.length_append,List.length_singleton];omega
  · omega
theorem xr(hk:k<=ns.length)(i:Nat)(hi:i<ns.length\/i=k):nd (zY ns k n) i=if i=k then n else nd ns i:=by
  unfold zY;rw[ze0 _ _ _ _ (by split<;>(try simp)<;>omega)]
  by_cases e:i=k
  · rw[if_pos e,if_pos e]
  · rw[if_neg e,if_neg e]
    split
    · rw[Xs,if_pos (by omega)]
    · rfl
theorem zet(hk:k<=ns.length)(hfree:k<ns.length->¬(nd ns k).v<24){h:Int}(ht:zb ns h<24):nd (zY ns k n) (h-2).toNat=nd ns (h-2).toNat/\zb (zY ns k n) h=zb ns h:=by
  obtain⟨b1,b2,b3⟩:=Z2 (by omega:zb ns h≠24);have hne:(h-2).toNat≠k:=fun e=>by
    rw[b3,e] at ht;exact hfree (e▸b2) ht
  have h1:nd (zY ns k n) (h-2).toNat=nd ns (h-2).toNat:=by rw[xr hk _ (.inl b2),if_neg hne]
  refine⟨h1,?_⟩;have hl:=(ZL (n:=n) hk (h-2).toNat).2 (.inl b2);unfold zb;rw[if_pos (by omega),if_pos (by omega),h1]
theorem QW(hk:k<=ns.length)(hfree:k<ns.length->¬(nd ns k).v<24){h:Int}(hh:ze ns h=true):zb (zY ns k n) h=zb ns h:=by
  rcases Xc hh with rfl|rfl|ht
  · simp[zb]
  · simp[zb]
  · exact(zet hk hfree ht).2
theorem Yo(hk:k<=ns.length)(hfree:k<ns.length->¬(nd ns k).v<24){h:Int}(hh:ze ns h=true):ze (zY ns k n) h=true:=by
  unfold ze;rw[QW hk hfree hh];exact hh
theorem zij(hk:k<=ns.length):zb (zY ns k n) (2+(k:Int))=n.v:=by
  rw[QI ((ZL hk k).2 (.inr rfl)),xr hk k (.inr rfl),if_pos rfl]
theorem zdo(hr:zw ns)(hk:k<=ns.length)(hfree:k<ns.length->¬(nd ns k).v<24)(hn:n.Ok)(hf:Fit ns n):zw (zY ns k n):=by
  have key:∀j,j<(zY ns k n).length->nd (zY ns k n) j=n/\j=k\/j<ns.length/\nd (zY ns k n) j=nd ns j:=fun j hj=>by
    have hj':=(ZL hk j).1 hj
    by_cases e:j=k
    · exact .inl ⟨by rw[xr hk j hj',if_pos e],e⟩
    · exact .inr ⟨by omega,by rw[xr hk j hj',if_neg e]⟩
  refine⟨?_,?_,?_,?_⟩<;>intro j hj<;>rcases key j hj with ⟨e,-⟩|⟨hl,e⟩<;>rw[e]
  · have:=hf.v0;have:=hf.v1;omega
  · exact hr.v0 j hl
  · intro _;rw[QW hk hfree hf.l];exact⟨hf.tl,Yo hk hfree hf.l⟩
  · intro hv;have:=hr.l j hl hv;rw[QW hk hfree this.2];exact⟨this.1,Yo hk hfree this.2⟩
  · intro _;rw[QW hk hfree hf.h];exact⟨hf.th,Yo hk hfree hf.h⟩
  · intro hv;have:=hr.h j hl hv;rw[QW hk hfree this.2];exact⟨this.1,Yo hk hfree this.2⟩
  · exact hn
  · exact hr.ok j hl
theorem zi4{L:List (Nd × Int)}(hB:xV ns L)(hk:k<=ns.length)(hfree:k<ns.length->¬(nd ns k).v<24)(hv:n.v<24)(hnin:n∉L.map Prod.fst):xV (zY ns k n) (L++[(n,2+(k:Int))]):=by
  refine⟨fun p hp=>?_,fun i hi hvi=>?_,?_,fun i hi hvi=>?_⟩
  · rcases List.mem_append.1 hp with hp|hp
    · obtain⟨i,hi,hvi,rfl⟩:=hB.mem p hp
      have hne:i≠k:=fun e=>by subst e;exact hfree hi hvi
      refine⟨i,(ZL hk i).2 (.inl hi),?_,?_⟩<;>rw[xr hk i (.inl hi),if_neg hne]
      exact hvi
    · rw[List.mem_singleton] at hp;subst hp
      refine⟨k,(ZL hk k).2 (.inr rfl),?_,?_⟩<;>rw[xr hk k (.inr rfl),if_pos rfl]
      exact hv
  · have hi':=(ZL hk i).1 hi
    rw[xr hk i hi'] at hvi ⊢
    by_cases e:i=k
    · rw[if_pos e];subst e;simp
    · rw[if_neg e] at hvi ⊢
      exact List.mem_append.2 (.inl (hB.all i (by omega) hvi))
  · rw[List.map_append,List.nodup_append]
    refine⟨hB.nodup,by simp,fun x hx y hy=>?_⟩;simp at hy;subst hy;exact fun e=>hnin (e▸hx)
  · have hi':=(ZL hk i).1 hi
    rw[xr hk i hi'] at hvi ⊢
    by_cases e:i=k
    · rw[if_pos e] at hvi;exact absurd hv hvi
    · rw[if_neg e] at hvi ⊢
      exact hB.free i (by omega) hvi
end
end Bd
namespace Bd
open Go.RowKit Go.Maps
theorem Je{ns:List Nd}(hr:zw ns):∀(d:Nat) (h:Int) (m:List Bool),m.length=ns.length->(∀i,mk m i=true->(nd ns i).v<24)->∀i,mk (qa d ns h m) i=true->(nd ns i).v<24
  |0,_,_,_,hm=>hm
  |d+1,h,m,hl,hm=>by
    unfold qa;split
    · exact hm
    · rename_i hn
      obtain⟨b1,b2,b3⟩:=Z2 (not_or.1 hn).1;have b4:=(qh hr h).2;have b5:=(not_or.1 hn).1;refine Je hr d _ _ (by rw[Zx,List.length_set,hl]) (Je hr d _ _ (by rw[List.length_set,hl]) ?_);intro i hi;rw[XB _ _ _ (by omega)] at hi
      by_cases e:i=(h-2).toNat
      · rw[e];omega
      · rw[decide_eq_false e,Bool.false_or] at hi;exact hm i hi
theorem zfv{ns:List Nd}(hr:zw ns)(fs:List Int):∀i,mk (qc ns fs) i=true->(nd ns i).v<24:=by
  have:∀(fs:List Int) (m:List Bool),m.length=ns.length->(∀i,mk m i=true->(nd ns i).v<24)->∀i,mk (fs.foldl (fun m h=>qa 24 ns h m) m) i=true->(nd ns i).v<24:=by
    intro fs
    induction fs with
    |nil=>intro m _ h;exact h
    |cons f fs ih=>intro m hl h;exact ih _ (by rw[Zx,hl]) (Je hr 24 f m hl h)
  exact this fs _ (by simp) (fun i h=>by rw[zbh] at h;cases h)
theorem Kh{ns:List Nd}(hr:zw ns)(fs:List Int):∀i,i<ns.length->mk (qc ns fs) i=true->yh ns (qc ns fs) (nd ns i).l/\yh ns (qc ns fs) (nd ns i).h:=by
  have:∀(fs:List Int) (m:List Bool),m.length=ns.length->(∀i,i<ns.length->mk m i=true->yh ns m (nd ns i).l/\yh ns m (nd ns i).h) ->
      ∀i,i<ns.length->mk (fs.foldl (fun m h=>qa 24 ns h m) m) i=true->yh ns (fs.foldl (fun m h=>qa 24 ns h m) m) (nd ns i).l/\yh ns (fs.foldl (fun m h=>qa 24 ns h m) m) (nd ns i).h:=by
    intro fs
    induction fs with
    |nil=>intro m _ h;exact h
    |cons f fs ih =>
      intro m hl h;refine ih _ (by rw[Zx,hl]) (fun i hi hm=>?_)
      by_cases h0:mk m i=true
      · exact⟨(h i hi h0).1.grow hl 24 f,(h i hi h0).2.grow hl 24 f⟩
      · exact(Kd hr 24 f m hl (by have:=(qh hr f).1;omega)).2 i hi hm (by simpa using h0)
  exact this fs _ (by simp) (fun i _ h=>by rw[zbh] at h;cases h)
theorem zhb{ns:List Nd}(hr:zw ns)(fs:List Int):zw (swept ns (qc ns fs)):=by
  have hc:=Kh hr fs;have hreal:=zfv hr fs;generalize qc ns fs=M at *;have key:∀j,j<ns.length->mk M j=true/\nd (swept ns M) j=nd ns j\/mk M j=false/\nd (swept ns M) j=⟨24,0,0⟩:=fun j hj=>by
    rw[Z4 ns M j hj]
    by_cases h:mk M j=true
    · exact .inl ⟨h,by rw[if_pos h]⟩
    · exact .inr ⟨by simpa using h,by rw[if_neg h]⟩
  have child:∀h,yh ns M h->ze ns h=true->zb (swept ns M) h=zb ns h/\ze (swept ns M) h=true:=fun h hm hh=>by
    have e:zb (swept ns M) h=zb ns h:=by
      rw[zdO];rcases hm with hm|hm
      · rw[hm];split<;>rfl
      · rw[if_pos hm]
    exact⟨e,by unfold ze at *;rw[e];exact hh⟩
  refine⟨?_,?_,?_,?_⟩<;>intro j hj<;>rw[xR] at hj
  · rcases key j hj with ⟨-,e⟩|⟨-,e⟩
    · rw[e];exact hr.v0 j hj
    · rw[e];simp
  · intro hv
    rcases key j hj with ⟨hm,e⟩|⟨-,e⟩
    · rw[e]
      have:=hr.l j hj (hreal j hm);have hcl:=child _ (hc j hj hm).1 this.2;rw[hcl.1];exact⟨this.1,hcl.2⟩
    · rw[e] at hv;simp at hv
  · intro hv
    rcases key j hj with ⟨hm,e⟩|⟨-,e⟩
    · rw[e]
      have:=hr.h j hj (hreal j hm);have hcl:=child _ (hc j hj hm).2 this.2;rw[hcl.1];exact⟨this.1,hcl.2⟩
    · rw[e] at hv;simp at hv
  · rcases key j hj with ⟨-,e⟩|⟨-,e⟩
    · rw[e];exact hr.ok j hj
    · rw[e];exact⟨⟨by decide,by decide⟩,⟨by decide,by decide⟩,⟨by decide,by decide⟩⟩
theorem zgv{ns:List Nd}{L:List (Nd × Int)}{M:List Bool}(hB:xV ns L):xV (swept ns M) (LTo L M ns.length):=by
  refine⟨fun p hp=>?_,fun i hi hv=>?_,?_,fun i hi hv=>?_⟩
  · obtain⟨h1,h2⟩:=List.mem_filter.1 hp
    obtain⟨i,hi,hv,rfl⟩:=hB.mem p h1;simp only[show (2+(i:Int)-2).toNat=i by omega,decide_eq_false (show ¬ns.length<=i by omega),Bool.false_or] at h2;refine⟨i,by rw[xR];exact hi,?_,?_⟩<;>rw[Z4 ns M i hi,if_pos h2]
    exact hv
  · rw[xR] at hi
    rw[Z4 ns M i hi] at hv ⊢
    by_cases hm:mk M i=true
    · rw[if_pos hm] at hv ⊢
      exact List.mem_filter.2 ⟨hB.all i hi hv,by simp only[show (2+(i:Int)-2).toNat=i by omega,hm,Bool.or_true]⟩
    · rw[if_neg hm] at hv;simp at hv
  · exact hB.nodup.sublist (List.filter_sublist.map _)
  · rw[xR] at hi
    rw[Z4 ns M i hi] at hv ⊢
    by_cases hm:mk M i=true
    · rw[if_pos hm] at hv ⊢;exact hB.free i hi hv
    · rw[if_neg hm]
def QQ(ns:List Nd):List Nat:=(List.range ns.length).filter fun i=>decide ((nd ns i).v<24)
theorem JZ{ns:List Nd}{L:List (Nd × Int)}(hB:xV ns L):L.length=(QQ ns).length:=by
  have hp:L.Perm ((QQ ns).map fun i:Nat=>(nd ns i,2+(i:Int))):=by
    refine(List.perm_ext_iff_of_nodup (List.Pairwise.of_map Prod.fst (fun a b h e=>h (e▸rfl)) hB.nodup) (List.Pairwise.map _ (fun a b h e=>h (by have:=(Prod.mk.inj e).2;omega)) (List.nodup_range.filter _))).2 fun p=>?_;rw[List.mem_map];constructor
    · intro h
      obtain⟨i,hi,hv,rfl⟩:=hB.mem p h;exact⟨i,List.mem_filter.2 ⟨List.mem_range.2 hi,by simpa using hv⟩,rfl⟩
    · rintro⟨i,hi,rfl⟩
      obtain⟨h1,h2⟩:=List.mem_filter.1 hi;exact hB.all i (List.mem_range.1 h1) (by simpa using h2)
  rw[hp.length_eq,List.length_map]
theorem zdZ(ns:List Nd):(QQ ns).length<=ns.length:=by
  unfold QQ;exact Nat.le_trans (List.length_filter_le _ _) (by simp)
end Bd
namespace Bd
open Go.RowKit Go.Maps
def pl(h:Int):Nat:=(h-2).toNat
def ZP:Nat->List Nd->Int->(Nat->Bool)->Bool
  |0,_,h,_=>decide (h=1)
  |d+1,ns,h,f =>
    if zb ns h=24 then decide (h=1)
    else if f (zb ns h).toNat then ZP d ns (nd ns (pl h)).h f else ZP d ns (nd ns (pl h)).l f
def sem(ns:List Nd)(h:Int)(f:Nat->Bool):Bool:=ZP 24 ns h f
structure zI(vars:Nat)(ns:List Nd):Prop where
  ranked:zw ns
  once:∀i j,i<ns.length->j<ns.length->(nd ns i).v<24->nd ns i=nd ns j->i=j
  red:∀i,i<ns.length->(nd ns i).v<24->(nd ns i).l≠(nd ns i).h
  vars:∀i,i<ns.length->(nd ns i).v<24->(nd ns i).v<(vars:Int)
  free:∀i,i<ns.length->¬(nd ns i).v<24->nd ns i=⟨24,0,0⟩
section
variable {ns:List Nd}
theorem yX{h:Int}(ht:zb ns h≠24):2<=h/\pl h<ns.length/\zb ns h=(nd ns (pl h)).v/\h=2+(pl h:Int):=by
  obtain⟨h1,h2,h3⟩:=Z2 ht;exact⟨h1,h2,h3,by unfold pl;omega⟩
theorem top_lt(hr:zw ns){h:Int}(ht:zb ns h≠24):zb ns h<24:=by
  have:=(qh hr h).2;omega
theorem xq(hr:zw ns){h:Int}(ht:zb ns h≠24):zb ns h<zb ns (nd ns (pl h)).l/\ze ns (nd ns (pl h)).l=true/\zb ns h<zb ns (nd ns (pl h)).h/\ze ns (nd ns (pl h)).h=true:=by
  obtain⟨h1,h2,h3,h4⟩:=yX ht;have hv:=top_lt hr ht;rw[h3] at hv ⊢;exact⟨(hr.l _ h2 hv).1,(hr.l _ h2 hv).2,(hr.h _ h2 hv).1,(hr.h _ h2 hv).2⟩
theorem Zn{h:Int}(hh:ze ns h=true)(ht:zb ns h=24):h=0\/h=1:=by
  rcases Xc hh with h1|h1|h1
  · exact .inl h1
  · exact .inr h1
  · omega
theorem zbG{a b:Nd}(h0:a.v=b.v)(h1:a.l=b.l)(h2:a.h=b.h):a=b:=by cases a;cases b;cases h0;cases h1;cases h2;rfl
structure Ext(ns ns':List Nd):Prop where
  has:∀h,ze ns h=true->ze ns' h=true
  top:∀h,ze ns h=true->zb ns' h=zb ns h
  node:∀h,ze ns h=true->zb ns h≠24->nd ns' (pl h)=nd ns (pl h)
theorem Ext.refl(ns:List Nd):Ext ns ns:=⟨fun _ h=>h,fun _ _=>rfl,fun _ _ _=>rfl⟩
theorem Ext.trans{a b c:List Nd}(h:Ext a b)(k:Ext b c):Ext a c :=
  ⟨fun x hx=>k.has x (h.has x hx),fun x hx=>(k.top x (h.has x hx)).trans (h.top x hx),fun x hx ht=>(k.node x (h.has x hx) (by rw[h.top x hx];exact ht)).trans (h.node x hx ht)⟩
theorem J5{ns':List Nd}(hr:zw ns)(he:Ext ns ns')(f:Nat->Bool):∀(d:Nat) (h:Int),ze ns h=true->ZP d ns' h f=ZP d ns h f
  |0,_,_=>rfl
  |d+1,h,hh=>by
    unfold ZP;rw[he.top h hh]
    by_cases ht:zb ns h=24
    · rw[if_pos ht,if_pos ht]
    · obtain⟨-,k1,-,k2⟩:=xq hr ht
      rw[if_neg ht,if_neg ht,he.node h hh ht,J5 hr he f d _ k1,J5 hr he f d _ k2]
theorem Xt{ns':List Nd}(hr:zw ns)(he:Ext ns ns'){h:Int}(hh:ze ns h=true)(f:Nat->Bool):sem ns' h f=sem ns h f:=J5 hr he f 24 h hh
theorem znh{k:Nat}{n:Nd}(hk:k<=ns.length)(hfree:k<ns.length->¬(nd ns k).v<24)(hr:zw ns):Ext ns (zY ns k n) :=
  ⟨fun _ hh=>Yo hk hfree hh,fun _ hh=>QW hk hfree hh,fun _ _ ht=>(zet hk hfree (top_lt hr ht)).1⟩
end
end Bd
namespace Bd
open Go.RowKit Go.Maps
def zP(ns:List Nd):Nat:=ns.findIdx fun n=>!decide (n.v<24)
def idx(ns:List Nd)(n:Nd):Nat:=ns.findIdx fun m=>decide (m=n)
def cnt(ns:List Nd):Nat:=(ns.filter fun n=>decide (n.v<24)).length
section
variable {ns:List Nd}
theorem Qb(ns:List Nd):zP ns<=ns.length:=List.findIdx_le_length
theorem zbC{j:Nat}(h:j<zP ns):(nd ns j).v<24:=by
  have hl:j<ns.length:=Nat.lt_of_lt_of_le h (Qb ns);have:=List.not_of_lt_findIdx h;rw[xS ns j hl];simpa using this
theorem X8(h:zP ns<ns.length):¬(nd ns (zP ns)).v<24:=by
  have:=List.findIdx_getElem (w:=h);rw[xS ns _ h];unfold zP;simpa using this
theorem zke{k:Nat}(hk:k<=ns.length)(ht:∀j,j<k->(nd ns j).v<24)(hf:k<ns.length->¬(nd ns k).v<24):k=zP ns:=by
  rcases Nat.lt_trichotomy k (zP ns) with h|h|h
  · exact absurd (zbC h) (hf (Nat.lt_of_lt_of_le h (Qb ns)))
  · exact h
  · exact absurd (ht _ h) (X8 (by omega))
theorem JK{n:Nd}(h:idx ns n<ns.length):nd ns (idx ns n)=n:=by
  have:=List.findIdx_getElem (w:=h);rw[xS ns _ h];unfold idx;simpa using this
theorem zc7{n:Nd}(h:¬idx ns n<ns.length){j:Nat}(hj:j<ns.length):nd ns j≠n:=by
  have:j<idx ns n:=by omega
  have:=List.not_of_lt_findIdx this;rw[xS ns j hj];simpa using this
def QC(ns:List Nd)(n:Nd):List Nd × Int:=if idx ns n<ns.length then (ns,2+(idx ns n:Int)) else (zY ns (zP ns) n,2+(zP ns:Int))
theorem zar(ns:List Nd):cnt ns<=ns.length:=List.length_filter_le _ _
theorem zb0{vars:Nat}(hg:zI vars ns){n:Nd}(hn:n.Ok)(hf:Fit ns n)(hne:n.l≠n.h)(hv:n.v<(vars:Int))(hnin:∀j,j<ns.length->nd ns j≠n):zI vars (zY ns (zP ns) n):=by
  have hk:=Qb ns;have hfr:zP ns<ns.length->¬(nd ns (zP ns)).v<24:=X8;have key:∀j,j<(zY ns (zP ns) n).length->nd (zY ns (zP ns) n) j=n/\j=zP ns\/j<ns.length/\j≠zP ns/\nd (zY ns (zP ns) n) j=nd ns j:=fun j hj=>by
    have hj':=(ZL hk j).1 hj
    by_cases e:j=zP ns
    · exact .inl ⟨by rw[xr hk j hj',if_pos e],e⟩
    · exact .inr ⟨by omega,e,by rw[xr hk j hj',if_neg e]⟩
  refine⟨zdo hg.ranked hk hfr hn hf,fun i j hi hj hvi e=>?_,fun i hi hvi=>?_,fun i hi hvi=>?_,fun i hi hvi=>?_⟩
  · rcases key i hi with ⟨e1,x1⟩|⟨l1,n1,e1⟩<;>rcases key j hj with ⟨e2,x2⟩|⟨l2,n2,e2⟩
    · omega
    · rw[e1,e2] at e;exact absurd e.symm (hnin j l2)
    · rw[e1,e2] at e;exact absurd e (hnin i l1)
    · rw[e1] at hvi;rw[e1,e2] at e;exact hg.once i j l1 l2 hvi e
  · rcases key i hi with ⟨e1,-⟩|⟨l1,-,e1⟩<;>rw[e1] at hvi ⊢
    · exact hne
    · exact hg.red i l1 hvi
  · rcases key i hi with ⟨e1,-⟩|⟨l1,-,e1⟩<;>rw[e1] at hvi ⊢
    · exact hv
    · exact hg.vars i l1 hvi
  · rcases key i hi with ⟨e1,-⟩|⟨l1,-,e1⟩<;>rw[e1] at hvi ⊢
    · exact absurd hf.v1 hvi
    · exact hg.free i l1 hvi
theorem zlS:∀(ns:List Nd),¬zP ns<ns.length->cnt ns=ns.length:=fun ns h=>by
  unfold cnt;rw[List.filter_eq_self.2];intro a ha;obtain⟨i,hi,rfl⟩:=List.getElem_of_mem ha;have:=zbC (ns:=ns) (j:=i) (by have:=Qb ns;omega);rw[xS ns i hi] at this;simpa using this
theorem zhU(ns:List Nd)(n:Nd):(zY ns (zP ns) n).length<=max ns.length (cnt ns+1):=by
  by_cases h:zP ns<ns.length
  · have:(zY ns (zP ns) n).length=ns.length:=by unfold zY;rw[if_neg (by omega)];simp
    omega
  · have h1:=zlS ns h
    have h2:=(zeg (n:=n) (Qb ns)).1;omega
structure zeN(vars:Nat)(ns:List Nd)(v l h:Int)(r:List Nd × Int):Prop where
  good:zI vars r.1
  ext:Ext ns r.1
  has:ze r.1 r.2=true
  sem:∀f,sem r.1 r.2 f=if f v.toNat then sem ns h f else sem ns l f
  top:v<=zb r.1 r.2
  cnt:cnt r.1<=cnt ns+1
  len:r.1.length<=ns.length+1
  tight:r.1.length<=max ns.length (Go.Proofs.YtapobpgbcbplbaaGreatDoor.Bd.cnt ns+1)
  i64:I64 r.2
theorem yO{h:Int}(hh:ze ns h=true)(hl:ns.length<=1000000):I64 h:=by
  rcases Xc hh with rfl|rfl|ht
  · exact⟨by omega,by omega⟩
  · exact⟨by omega,by omega⟩
  · obtain⟨h1,h2,-,h4⟩:=yX (ns:=ns) (h:=h) (by omega)
    exact⟨by omega,by omega⟩
end
end Bd
namespace Bd
open Go.RowKit Go.Maps
def zb1(k:Nd):Option Int:=if k.v=1\/k.l=k.h then some k.l else if k.v=0 then some k.h else if k.l=1/\k.h=0 then some k.v else none
def za6(k:Nd):Option Int:=if k.v=k.l then some 0 else if k.v=0 then some k.l else if k.l=0 then some k.v else none
def zdi(op:Bool)(k:Nd):Option Int:=if op=true then zb1 k else za6 k
def opS(op a b c:Bool):Bool:=if op=true then (if a=true then b else c) else (a != b)
def Zo(ns:List Nd)(k:Nd):Int:=min (min (zb ns k.v) (zb ns k.l)) (zb ns k.h)
def look{α:Type}[DecidableEq α](m:List (α × Int))(k:α):Option Int:=(m.find? fun p=>decide (p.1=k)).map Prod.snd
def ZY{α:Type}[DecidableEq α](m:List (α × Int))(k:α)(h:Int):List (α × Int):=if k∈m.map Prod.fst then m.map (fun q=>if q.1=k then (q.1,h) else q) else m++[(k,h)]
section
variable {α:Type} [DecidableEq α] {m:List (α × Int)} {k:α}
theorem zhc{h:Int}{p:α × Int}(hp:p∈ZY m k h):p=(k,h)\/p∈m:=by
  unfold ZY at hp;split at hp
  · obtain⟨q,hq,rfl⟩:=List.mem_map.1 hp
    by_cases e:q.1=k
    · rw[if_pos e];exact .inl (by rw[e])
    · rw[if_neg e];exact .inr hq
  · rcases List.mem_append.1 hp with hp|hp
    · exact .inr hp
    · rw[List.mem_singleton] at hp;exact .inl hp
end
structure Yb(ns:List Nd)(k:Nd):Prop where
  a:ze ns k.v=true
  b:ze ns k.l=true
  c:ze ns k.h=true
structure yF(op:Bool)(ns:List Nd)(m:List (Nd × Int)):Prop where
  keys:∀p∈m,Yb ns p.1
  has:∀p∈m,ze ns p.2=true
  top:∀p∈m,Zo ns p.1<=zb ns p.2
  sem:∀p∈m,∀f,sem ns p.2 f=opS op (sem ns p.1.v f) (sem ns p.1.l f) (sem ns p.1.h f)
section
variable {ns:List Nd} {op:Bool} {m:List (Nd × Int)} {k:Nd} {vars:Nat}
theorem znR(ns:List Nd)(k:Nd):Zo ns k<=zb ns k.v/\Zo ns k<=zb ns k.l/\Zo ns k<=zb ns k.h:=by unfold Zo;omega
theorem Yb.ext{ns':List Nd}(h:Yb ns k)(he:Ext ns ns'):Yb ns' k:=⟨he.has _ h.a,he.has _ h.b,he.has _ h.c⟩
theorem zhK{ns':List Nd}(h:Yb ns k)(he:Ext ns ns'):Zo ns' k=Zo ns k:=by unfold Zo;rw[he.top _ h.a,he.top _ h.b,he.top _ h.c]
theorem yF.ext{ns':List Nd}(hr:zw ns)(h:yF op ns m)(he:Ext ns ns'):yF op ns' m :=
  ⟨fun p hp=>(h.keys p hp).ext he,fun p hp=>he.has _ (h.has p hp),fun p hp=>by rw [zhK (h.keys p hp) he,he.top _ (h.has p hp)];exact h.top p hp,
   fun p hp f=>by rw [Xt hr he (h.has p hp),Xt hr he (h.keys p hp).a,Xt hr he (h.keys p hp).b,Xt hr he (h.keys p hp).c];exact h.sem p hp f⟩
theorem Jc(hr:zw ns)(h3:Yb ns k)(e:zdi op k=none):Zo ns k<24:=by
  have tv:=qh hr k.v;have tl:=qh hr k.l;obtain⟨m1,m2,m3⟩:=znR ns k;unfold zdi at e;cases op with
  |true =>
    simp only[if_true] at e;unfold zb1 at e;split at e
    · cases e
    · split at e
      · cases e
      · rename_i c1 c2
        by_cases t:zb ns k.v=24
        · rcases Zn h3.a t with h|h
          · exact absurd h c2
          · exact absurd (.inl h) c1
        · omega
  |false =>
    simp only[Bool.false_eq_true,if_false] at e;unfold za6 at e;split at e
    · cases e
    · split at e
      · cases e
      · split at e
        · cases e
        · rename_i c1 c2 c3
          by_cases t:zb ns k.v=24
          · by_cases u:zb ns k.l=24
            · rcases Zn h3.a t with h|h<;>rcases Zn h3.b u with g|g<;>first|exact absurd h c2|exact absurd g c3|exact absurd (h.trans g.symm) c1
            · omega
          · omega
def rk(vars:Nat)(ns:List Nd)(k:Nd):Nat:=((vars:Int)-Zo ns k).toNat
theorem Q7(hg:zI vars ns){h:Int}(ht:zb ns h≠24):zb ns h<(vars:Int):=by
  obtain⟨h1,h2,h3,-⟩:=yX ht;have:=top_lt hg.ranked ht;rw[h3] at this ⊢;exact hg.vars _ h2 this
end
end Bd
end Go.Proofs.YtapobpgbcbplbaaGreatDoor
