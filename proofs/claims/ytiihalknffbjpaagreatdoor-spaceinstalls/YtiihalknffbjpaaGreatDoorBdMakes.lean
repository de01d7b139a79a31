/- What a function makes of handles: of three ends at once, else by the least variable. -/
import Derived.Test.YtiihalknffbjpaaGreatDoorArDrop
namespace Go.Proofs.YtiihalknffbjpaaGreatDoor
set_option maxHeartbeats 4000000
set_option maxRecDepth 100000
namespace Bd
open Go.RowKit Go.Maps
structure zri(ns:List Nd)(L:List (Nd × Int)):Prop where
  mem:∀p∈L,∃i:Nat,i<ns.length/\(nd ns i).v<24/\p=(nd ns i,2+(i:Int))
  all:∀i,i<ns.length->(nd ns i).v<24->(nd ns i,2+(i:Int))∈L
  nodup:(L.map Prod.fst).Nodup
  free:∀i,i<ns.length->¬(nd ns i).v<24->nd ns i=⟨24,0,0⟩
theorem zl2{a b:List Nd}(hl:a.length=b.length)(h:∀i,i<a.length->nd a i=nd b i):a=b:=by
  apply List.ext_getElem hl;intro i h1 h2;have:=h i h1
  rwa [zhm a i h1,zhm b i h2] at this
theorem zt3(ns:List Nd)(k:Nat)(n:Nd)(i:Nat)(h:k<ns.length):nd (ns.set k n) i=if i=k then n else nd ns i:=by
  unfold nd;simp only[List.getD_eq_getElem?_getD,List.getElem?_set]
  by_cases e:k=i
  · subst e;simp[h]
  · rw[if_neg e,if_neg (fun h=>e h.symm)]
def zck(ns:List Nd)(M:List Bool)(k:Nat):List Nd:=(List.range ns.length).map fun i=>if i<k/\mk M i=false then ⟨24,0,0⟩ else nd ns i
theorem zao(ns:List Nd)(M:List Bool)(k:Nat):(zck ns M k).length=ns.length:=by simp[zck]
theorem zb3(ns:List Nd)(M:List Bool)(k i:Nat)(h:i<ns.length):nd (zck ns M k) i=if i<k/\mk M i=false then ⟨24,0,0⟩ else nd ns i:=by
  rw[zhm _ i (by rw[zao];exact h)];simp[zck]
theorem zjV(ns:List Nd)(M:List Bool):zck ns M 0=ns :=
  zl2 (zao _ _ _) (fun i h=>by rw[zb3 ns M 0 i (by rwa [zao] at h),if_neg (by omega)])
theorem zlF(ns:List Nd)(M:List Bool):zck ns M ns.length=zbD ns M :=
  zl2 (by rw [zao,zaG]) (fun i h=>by
    rw[zao] at h;rw[zb3 ns M _ i h,zcM ns M i h]
    by_cases e:mk M i=true
    · rw[if_pos e,if_neg (by simp[e])]
    · rw [if_neg e,if_pos ⟨h,by simpa using e⟩])
theorem zfL{ns:List Nd}{M:List Bool}{k:Nat}(_hk:k<ns.length)(h:mk M k=true\/nd ns k=⟨24,0,0⟩):zck ns M (k+1)=zck ns M k :=
  zl2 (by rw [zao,zao]) (fun i hi=>by
    rw[zao] at hi;rw[zb3 ns M _ i hi,zb3 ns M _ i hi]
    by_cases e:i=k
    · subst e
      rw[if_neg (show ¬(i<i/\mk M i=false) by omega)];rcases h with h|h
      · rw[if_neg (by simp[h])]
      · rw[h];split<;>rfl
    · by_cases e2:i<k/\mk M i=false
      · rw[if_pos e2,if_pos ⟨by omega,e2.2⟩]
      · rw [if_neg e2,if_neg (fun h=>e2 ⟨by omega,h.2⟩)])
theorem zlo{ns:List Nd}{M:List Bool}{k:Nat}(hk:k<ns.length)(h:mk M k=false):(zck ns M k).set k ⟨24,0,0⟩=zck ns M (k+1) :=
  zl2 (by rw [List.length_set,zao,zao]) (fun i hi=>by
    rw[List.length_set,zao] at hi;rw[zt3 _ _ _ _ (by rw[zao];exact hk),zb3 ns M _ i hi,zb3 ns M _ i hi]
    by_cases e:i=k
    · subst e;rw[if_pos rfl,if_pos ⟨by omega,h⟩]
    · rw[if_neg e]
      by_cases e2:i<k/\mk M i=false
      · rw[if_pos e2,if_pos ⟨by omega,e2.2⟩]
      · rw [if_neg e2,if_neg (fun h=>e2 ⟨by omega,h.2⟩)])
def LTo(L:List (Nd × Int))(M:List Bool)(k:Nat):List (Nd × Int):=L.filter fun p=>decide (k<=(p.2-2).toNat)||mk M (p.2-2).toNat
theorem ztg(L:List (Nd × Int))(M:List Bool):LTo L M 0=L:=by
  unfold LTo;rw[List.filter_eq_self];intro p _;simp
theorem zlT{ns:List Nd}{L:List (Nd × Int)}{M:List Bool}{k:Nat}(hB:zri ns L)(hk:k<ns.length)(h:mk M k=true\/¬(nd ns k).v<24):LTo L M (k+1)=LTo L M k:=by
  unfold LTo;apply List.filter_congr;intro p hp;obtain⟨i,hi,hv,rfl⟩:=hB.mem p hp;have e:(2+(i:Int)-2).toNat=i:=by omega
  simp only[e]
  by_cases e2:i=k
  · subst e2
    rcases h with h|h
    · simp[h]
    · exact absurd hv h
  · congr 1
    exact decide_eq_decide.2 (by omega)
theorem zni{ns:List Nd}{L:List (Nd × Int)}{M:List Bool}{k:Nat}(hB:zri ns L)(hk:k<ns.length)(h:mk M k=false)(hv:(nd ns k).v<24):zkK (LTo L M k) (nd ns k)=LTo L M (k+1):=by
  unfold zkK LTo;rw[List.filter_filter];apply List.filter_congr;intro p hp;have hin:=hB.all k hk hv;obtain⟨i,hi,hvi,rfl⟩:=hB.mem p hp;have e:(2+(i:Int)-2).toNat=i:=by omega
  simp only[e]
  by_cases e2:i=k
  · subst e2
    simp[h]
  · have hne:nd ns i≠nd ns k:=by
      intro he;obtain⟨x,hx,hxe⟩:=List.getElem_of_mem hp;obtain⟨y,hy,hye⟩:=List.getElem_of_mem hin;have:=(List.getElem_inj (h₀:=by simpa using hx) (h₁:=by simpa using hy) hB.nodup).1 (by simp[hxe,hye,he]);subst this;rw[hxe] at hye;have:=congrArg Prod.snd hye;simp at this;omega
    rw[decide_eq_true hne,Bool.true_and];congr 1;exact decide_eq_decide.2 (by omega)
theorem zuW{ns:List Nd}{L:List (Nd × Int)}{M:List Bool}{k:Nat}(hB:zri ns L)(hk:k<ns.length)(hv:(nd ns k).v<24):(nd ns k,2+(k:Int))∈LTo L M k:=by
  unfold LTo;rw[List.mem_filter];exact⟨hB.all k hk hv,by simp;omega⟩
section
variable {B b bm:Nat} {v:Value} {ns:List Nd} {L:List (Nd × Int)} {room next:Int} {w:World}
theorem zpy(hr:zaF ns)(hbk:zri ns L)(hl:ns.length<=100000)(hA:zan B w b bm v ns L room next)(bf:Nat){cp:Nat}(fs:List Int)(hF:zeh w bf fs)(hfl:fs.length<=1000)(hB:B<=w.heap.size)(hLl:L.length<=100000) :
    zC 226 #[.pointer (some ⟨b,0,none⟩),.slice (some ⟨bf,0,none⟩) fs.length cp] w fun e w'=>e=.returned (.int .i64 ((L.length:Int)-((LTo L (zaw ns fs) ns.length).length:Int)))/\zan B w' b bm v (zbD ns (zaw ns fs)) (LTo L (zaw ns fs) ns.length) room 2/\zah (Own b bm v) w w':=by
  have HC:=zH (zkC (cp:=cp) hr hl hA bf fs hF hfl hB);have hML:=zcU ns fs;generalize zaw ns fs=M at *;have HML:=zH hML;have hg:¬Own b bm v w.heap.size:=by
    obtain⟨D,hD,-⟩:=hA.hmap;have hbm:=hD.lt;have hlt:=hA.lt;rintro (h|h|h)
    · omega
    · omega
    · have:=(hA.row.lt _ h).2;omega
  have HLEN:=zH (zh3 hA);have HA:=zH hA;have HG:=zH hg;have HBK:=zH hbk;have HR:=zH hr;clear hA hF hr hML hg hbk;go_enter Tryz.func226,Tryz.ntmps226;go_wp2_with fail;refine HLEN.out.mono ?_;rintro e w0 ⟨rfl,rfl⟩;clear HLEN;go_wp2_with fail;refine HC.out.mono ?_;rintro e w1 ⟨rfl,hm1,hb1⟩;clear HC;have hA1:=HA.out.kept (zah.of_below hb1 (fun _=>False)) (fun _ _ h=>h);have hK1:=zah.of_below hb1 (Own b bm v);go_wp2_with fail;go_loopw [6,7,14] (fun _ _ i wr=>∃k:Nat,k<=ns.length/\i=.int .i64 k/\zan B wr b bm v (zck ns M k) (LTo L M k) room next/\wr.ownsRow B 4 1 (.slice (some ⟨w.heap.size,0,none⟩) ns.length ns.length) ns.length (zbX M)/\zah (Own b bm v) w wr)
    (fun _ _ i _=>ns.length-(intOf i).toNat)
  case atStart=>exact⟨0,Nat.zero_le _,rfl,by rw[zjV,ztg];exact hA1,hm1,hK1⟩
  case round =>
    obtain⟨k,hk,rfl,hAr,hmr,hKr⟩:=hrel;clear hA1 hK1 hm1 hb1
    by_cases hlt:k<ns.length
    · have cm:=hmr.cellAt k (by omega)
      rw[zjg M k (by rw[HML.out];exact hlt)] at cm;have ib:(k:Int)<(ns.length:Int):=by omega
      by_cases hm:mk M k=true
      · rw[hm] at cm
        have E1:=zH (zfL hlt (.inl hm));have E2:=zH (zlT HBK.out hlt (.inl hm));have HAr:=zH hAr;have HKr:=zH hKr;have HM:=zH hmr;clear hm hAr hKr hmr;go_wp2;go_roundw
        case rel=>exact⟨k+1,by omega,by go_num,by rw[E1.out,E2.out];exact HAr.out,HM.out,HKr.out⟩
        case measure=>simp[intOf];omega
      · have hm':mk M k=false:=by simpa using hm
        rw[hm'] at cm;have hnk:nd (zck ns M k) k=nd ns k:=by rw[zb3 ns M k k hlt,if_neg (by omega)]
        have HAr:=zH hAr;have HKr:=zH hKr;have HM:=zH hmr;clear hAr hKr hmr
        by_cases hv:(nd ns k).v<24
        · have HD:=zH (zth HAr.out (by rw[zao];exact hl) k (by rw[zao];exact hlt) (by rw[hnk];omega) (by rw[hnk];exact zuW HBK.out hlt hv))
          rw[hnk,zlo hlt hm',zni HBK.out hlt hm' hv] at HD;clear hm hm' hnk hv;go_wp2_with fail;refine HD.out.mono ?_;rintro e w2 ⟨rfl,hA2,hK2⟩;have hm2:=zbQ HM.out hK2 (fun j hj h2=>by have hj2:w.heap.size=j:=Option.some.inj hj;exact HG.out (hj2▸h2));have hKK:=HKr.out.trans hK2;clear HD hK2 HAr;go_wp2;go_roundw
          case rel=>exact⟨k+1,by omega,by go_num,hA2,hm2,hKK⟩
          case measure=>simp[intOf];omega
        · have E1:=zH (zfL (M:=M) hlt (.inr (HBK.out.free k hlt hv)))
          have E2:=zH (zlT (M:=M) HBK.out hlt (.inr hv));have HD:=zH (zuB HAr.out (by rw[zao];exact hl) (2+(k:Int)) ⟨by omega,by omega⟩ (by rw[zdh (by rw[zao];exact hlt),hnk,HBK.out.free k hlt hv]));clear hm hm' hnk hv;go_wp2_with fail;refine HD.out.mono ?_;rintro e w2 ⟨rfl,hb2⟩;have hm2:=zeC HM.out hb2;have hKK:=HKr.out.trans (zah.of_below hb2 _);have hA2:=HAr.out.kept (zah.of_below hb2 (fun _=>False)) (fun _ _ h=>h);clear HD hb2 HAr;go_wp2;go_roundw
          case rel=>exact⟨k+1,by omega,by go_num,by rw[E1.out,E2.out];exact hA2,hm2,hKK⟩
          case measure=>simp[intOf];omega
    · obtain rfl:k=ns.length:=by omega
      rw[zlF] at hAr;have hA2:=hAr.setNext 2;have HLEN:=zH (zh3 hA2);have cnx:=hAr.cnext;have fnx:=hAr.froz 3;have HA2:=zH hA2;have hKK:=hKr.trans (zah.setCell (S:=Own b bm v) wr ⟨b,3,none⟩ (.int .i64 2) (.inl rfl));have hle:(LTo L M ns.length).length<=L.length:=List.length_filter_le _ _;have HK2:=zH hKK;obtain⟨q,hq⟩:∃q,q=(LTo L M ns.length).length:=⟨_,rfl⟩;rw[<-hq] at HLEN hle;have HQ:=zH hq;clear hq;clear hAr hA2 hKr hKK hmr;go_wp2_with fail;refine HLEN.out.mono ?_;rintro e w3 ⟨rfl,rfl⟩;go_wp2;go_ret;exact⟨by rw[<-HQ.out];rfl,HA2.out,HK2.out⟩
end
end Bd
namespace Bd
open Go.RowKit Go.Maps
theorem zly(room:Int)(h0:0<=room)(h1:room<=4000)(w:World)(B:Nat)(hB:B<=w.heap.size) :
    zC 155 #[.int .i64 room] w fun e w'=>e=.returned (.tuple #[.pointer (some ⟨w.heap.size+1,0,none⟩),.nilIface])/\zan B w' (w.heap.size+1) w.heap.size (.slice none 0 0) [] [] room 2/\zB w w':=by
  have hmm:=@run_makeMap Tryz.prog;have hE:zan B ((w.alloc (.map #[] 0)).alloc (.cells #[.int .i64 room,.slice none 0 0,.map (some w.heap.size),.int .i64 2] 285)) (w.heap.size+1) w.heap.size (.slice none 0 0) [] [] room 2:=by
    have e1:(w.alloc (.map #[] 0)).heap.size=w.heap.size+1:=by simp
    have hm:((w.alloc (.map #[] 0)).alloc (.cells #[.int .i64 room,.slice none 0 0,.map (some w.heap.size),.int .i64 2] 285)).ownsMap Tryz.prog 176 (plainElem (H:=Unit) Tryz.prog 3) w.heap.size 0 (.map []):=(World.ownsMap_made w _ _ _).alloc _;refine⟨by simp,?_,?_,?_,?_,?_,World.ownsRow_nil _ _ _ _,⟨_,hm,Rep.empty⟩,by simp[Value.ownBlock],by omega,by simp[Value.ownBlock],by omega,hB⟩
    · rw[<-e1];simp
    · rw[<-e1];simp
    · rw[<-e1];simp
    · rw[<-e1];simp
    · intro i;rw[<-e1];simp
  have hb:zB w ((w.alloc (.map #[] 0)).alloc (.cells #[.int .i64 room,.slice none 0 0,.map (some w.heap.size),.int .i64 2] 285)):=(zF.alloc zN _).alloc (by simp) _;have HE:=zH hE;clear hE;go_enter Tryz.func155,Tryz.ntmps155;go_wp2;go_ret2;exact⟨rfl,HE.out,hb⟩
end Bd
namespace Bd
open Go.RowKit Go.Maps
theorem zuo(ns:List Nd)(n:Nd)(i:Nat):nd (ns++[n]) i=if i<ns.length then nd ns i else if i=ns.length then n else ⟨0,0,0⟩:=by
  unfold nd;simp only[List.getD_eq_getElem?_getD]
  by_cases h:i<ns.length
  · rw[if_pos h,List.getElem?_append_left h]
  · rw[if_neg h,List.getElem?_append_right (by omega)]
    by_cases e:i=ns.length
    · subst e;simp
    · rw[if_neg e,List.getElem?_eq_none (by simp;omega)];rfl
theorem ze9{ns:List Nd}{h:Int}(hh:zaP ns h=true):h=0\/h=1\/zaa ns h<24:=by
  unfold zaP at hh;simpa[or_assoc] using hh
end Bd
namespace Bd
open Go.RowKit Go.Maps
def zd2(ns:List Nd)(k:Nat)(n:Nd):List Nd:=(if k=ns.length then ns++[⟨24,0,0⟩] else ns).set k n
section
variable {ns:List Nd} {k:Nat} {n:Nd}
theorem zdT(hk:k<=ns.length)(i:Nat):i<(zd2 ns k n).length↔i<ns.length\/i=k:=by
  unfold zd2;rw[List.length_set];split
  · rw[List.length_append,List.length_singleton];omega
  · omega
theorem zes(_hk:k<=ns.length):(zd2 ns k n).length<=ns.length+1/\ns.length<=(zd2 ns k n).length:=by
  unfold zd2;rw[List.length_set];split
  · rw[List.length_append,List.length_singleton];omega
  · omega
theorem zb7(hk:k<=ns.length)(i:Nat)(hi:i<ns.length\/i=k):nd (zd2 ns k n) i=if i=k then n else nd ns i:=by
  unfold zd2;rw[zt3 _ _ _ _ (by split<;>(try simp)<;>omega)]
  by_cases e:i=k
  · rw[if_pos e,if_pos e]
  · rw[if_neg e,if_neg e]
    split
    · rw[zuo,if_pos (by omega)]
    · rfl
theorem zjC(hk:k<=ns.length)(hfree:k<ns.length->¬(nd ns k).v<24){h:Int}(ht:zaa ns h<24):nd (zd2 ns k n) (h-2).toNat=nd ns (h-2).toNat/\zaa (zd2 ns k n) h=zaa ns h:=by
  obtain⟨b1,b2,b3⟩:=zb4 (by omega:zaa ns h≠24);have hne:(h-2).toNat≠k:=fun e=>by
    rw[b3,e] at ht;exact hfree (e▸b2) ht
  have h1:nd (zd2 ns k n) (h-2).toNat=nd ns (h-2).toNat:=by rw[zb7 hk _ (.inl b2),if_neg hne]
  refine⟨h1,?_⟩;have hl:=(zdT (n:=n) hk (h-2).toNat).2 (.inl b2);unfold zaa;rw[if_pos (by omega),if_pos (by omega),h1]
theorem zdU(hk:k<=ns.length)(hfree:k<ns.length->¬(nd ns k).v<24){h:Int}(hh:zaP ns h=true):zaa (zd2 ns k n) h=zaa ns h:=by
  rcases ze9 hh with rfl|rfl|ht
  · simp[zaa]
  · simp[zaa]
  · exact(zjC hk hfree ht).2
theorem zeX(hk:k<=ns.length)(hfree:k<ns.length->¬(nd ns k).v<24){h:Int}(hh:zaP ns h=true):zaP (zd2 ns k n) h=true:=by
  unfold zaP;rw[zdU hk hfree hh];exact hh
theorem zkb(hk:k<=ns.length):zaa (zd2 ns k n) (2+(k:Int))=n.v:=by
  rw[zdh ((zdT hk k).2 (.inr rfl)),zb7 hk k (.inr rfl),if_pos rfl]
theorem zkE(hr:zaF ns)(hk:k<=ns.length)(hfree:k<ns.length->¬(nd ns k).v<24)(hn:n.Ok)(hf:Fit ns n):zaF (zd2 ns k n):=by
  have key:∀j,j<(zd2 ns k n).length->nd (zd2 ns k n) j=n/\j=k\/j<ns.length/\nd (zd2 ns k n) j=nd ns j:=fun j hj=>by
    have hj':=(zdT hk j).1 hj
    by_cases e:j=k
    · exact .inl ⟨by rw[zb7 hk j hj',if_pos e],e⟩
    · exact .inr ⟨by omega,by rw[zb7 hk j hj',if_neg e]⟩
  refine⟨?_,?_,?_,?_⟩<;>intro j hj<;>rcases key j hj with ⟨e,-⟩|⟨hl,e⟩<;>rw[e]
  · have:=hf.v0;have:=hf.v1;omega
  · exact hr.v0 j hl
  · intro _;rw[zdU hk hfree hf.l];exact⟨hf.tl,zeX hk hfree hf.l⟩
  · intro hv;have:=hr.l j hl hv;rw[zdU hk hfree this.2];exact⟨this.1,zeX hk hfree this.2⟩
  · intro _;rw[zdU hk hfree hf.h];exact⟨hf.th,zeX hk hfree hf.h⟩
  · intro hv;have:=hr.h j hl hv;rw[zdU hk hfree this.2];exact⟨this.1,zeX hk hfree this.2⟩
  · exact hn
  · exact hr.ok j hl
theorem zpv{L:List (Nd × Int)}(hB:zri ns L)(hk:k<=ns.length)(hfree:k<ns.length->¬(nd ns k).v<24)(hv:n.v<24)(hnin:n∉L.map Prod.fst):zri (zd2 ns k n) (L++[(n,2+(k:Int))]):=by
  refine⟨fun p hp=>?_,fun i hi hvi=>?_,?_,fun i hi hvi=>?_⟩
  · rcases List.mem_append.1 hp with hp|hp
    · obtain⟨i,hi,hvi,rfl⟩:=hB.mem p hp
      have hne:i≠k:=fun e=>by subst e;exact hfree hi hvi
      refine⟨i,(zdT hk i).2 (.inl hi),?_,?_⟩<;>rw[zb7 hk i (.inl hi),if_neg hne]
      exact hvi
    · rw[List.mem_singleton] at hp;subst hp
      refine⟨k,(zdT hk k).2 (.inr rfl),?_,?_⟩<;>rw[zb7 hk k (.inr rfl),if_pos rfl]
      exact hv
  · have hi':=(zdT hk i).1 hi
    rw[zb7 hk i hi'] at hvi ⊢
    by_cases e:i=k
    · rw[if_pos e];subst e;simp
    · rw[if_neg e] at hvi ⊢
      exact List.mem_append.2 (.inl (hB.all i (by omega) hvi))
  · rw[List.map_append,List.nodup_append]
    refine⟨hB.nodup,by simp,fun x hx y hy=>?_⟩;simp at hy;subst hy;exact fun e=>hnin (e▸hx)
  · have hi':=(zdT hk i).1 hi
    rw[zb7 hk i hi'] at hvi ⊢
    by_cases e:i=k
    · rw[if_pos e] at hvi;exact absurd hv hvi
    · rw[if_neg e] at hvi ⊢
      exact hB.free i (by omega) hvi
end
end Bd
namespace Bd
open Go.RowKit Go.Maps
def pl(h:Int):Nat:=(h-2).toNat
def zhz:Nat->List Nd->Int->(Nat->Bool)->Bool
  |0,_,h,_=>decide (h=1)
  |d+1,ns,h,f =>
    if zaa ns h=24 then decide (h=1)
    else if f (zaa ns h).toNat then zhz d ns (nd ns (pl h)).h f else zhz d ns (nd ns (pl h)).l f
def sem(ns:List Nd)(h:Int)(f:Nat->Bool):Bool:=zhz 24 ns h f
structure zcq(vars:Nat)(ns:List Nd):Prop where
  ranked:zaF ns
  once:∀i j,i<ns.length->j<ns.length->(nd ns i).v<24->nd ns i=nd ns j->i=j
  red:∀i,i<ns.length->(nd ns i).v<24->(nd ns i).l≠(nd ns i).h
  vars:∀i,i<ns.length->(nd ns i).v<24->(nd ns i).v<(vars:Int)
  free:∀i,i<ns.length->¬(nd ns i).v<24->nd ns i=⟨24,0,0⟩
section
variable {ns:List Nd}
theorem zbq{h:Int}(ht:zaa ns h≠24):2<=h/\pl h<ns.length/\zaa ns h=(nd ns (pl h)).v/\h=2+(pl h:Int):=by
  obtain⟨h1,h2,h3⟩:=zb4 ht;exact⟨h1,h2,h3,by unfold pl;omega⟩
theorem zhv(hr:zaF ns){h:Int}(ht:zaa ns h≠24):zaa ns h<24:=by
  have:=(zam hr h).2;omega
theorem zlS(hr:zaF ns){h:Int}(ht:zaa ns h≠24):zaa ns h<zaa ns (nd ns (pl h)).l/\zaP ns (nd ns (pl h)).l=true/\zaa ns h<zaa ns (nd ns (pl h)).h/\zaP ns (nd ns (pl h)).h=true:=by
  obtain⟨h1,h2,h3,h4⟩:=zbq ht;have hv:=zhv hr ht;rw[h3] at hv ⊢;exact⟨(hr.l _ h2 hv).1,(hr.l _ h2 hv).2,(hr.h _ h2 hv).1,(hr.h _ h2 hv).2⟩
theorem zgF{h:Int}(hh:zaP ns h=true)(ht:zaa ns h=24):h=0\/h=1:=by
  rcases ze9 hh with h1|h1|h1
  · exact .inl h1
  · exact .inr h1
  · omega
theorem zfX(hr:zaF ns)(f:Nat->Bool):∀(d e:Nat) (h:Int),24<=zaa ns h+d->24<=zaa ns h+e->zhz d ns h f=zhz e ns h f
  |0,0,h,_,_=>rfl
  |0,e+1,h,hd,_=>by
    have:=(zam hr h).2;unfold zhz;rw[if_pos (by omega)]
  |d+1,0,h,_,he=>by
    have:=(zam hr h).2;unfold zhz;rw[if_pos (by omega)]
  |d+1,e+1,h,hd,he=>by
    unfold zhz
    by_cases ht:zaa ns h=24
    · rw[if_pos ht,if_pos ht]
    · rw[if_neg ht,if_neg ht]
      obtain⟨k1,-,k2,-⟩:=zlS hr ht;rw[zfX hr f d e _ (by omega) (by omega),zfX hr f d e (nd ns (pl h)).l (by omega) (by omega)]
theorem ziJ{h:Int}(ht:zaa ns h=24)(f:Nat->Bool):sem ns h f=decide (h=1):=by
  unfold sem zhz;rw[if_pos ht]
theorem zbm(f:Nat->Bool):sem ns 0 f=false:=by rw[ziJ (by simp[zaa])];rfl
theorem zbJ(f:Nat->Bool):sem ns 1 f=true:=by rw[ziJ (by simp[zaa])];rfl
theorem zdV(hr:zaF ns){h:Int}(ht:zaa ns h≠24)(f:Nat->Bool):sem ns h f=if f (zaa ns h).toNat then sem ns (nd ns (pl h)).h f else sem ns (nd ns (pl h)).l f:=by
  obtain⟨k1,-,k2,-⟩:=zlS hr ht;have h0:=(zam hr h).1;show zhz 24 ns h f=_;unfold zhz;rw[if_neg ht,zfX hr f 23 24 _ (by omega) (by omega),zfX hr f 23 24 (nd ns (pl h)).l (by omega) (by omega)];rfl
def loS(ns:List Nd)(h v:Int):Int:=if zaa ns h=v then (nd ns (pl h)).l else h
def hiS(ns:List Nd)(h v:Int):Int:=if zaa ns h=v then (nd ns (pl h)).h else h
theorem zev(hr:zaF ns){h v:Int}(hv:v<24)(hh:zaP ns h=true):zaP ns (loS ns h v)=true/\(v<=zaa ns h->v<zaa ns (loS ns h v))/\zaa ns h<=zaa ns (loS ns h v):=by
  unfold loS
  by_cases e:zaa ns h=v
  · rw[if_pos e]
    have:=zlS hr (h:=h) (by omega);exact⟨this.2.1,fun _=>by omega,by omega⟩
  · rw[if_neg e];exact⟨hh,fun h=>by omega,Int.le_refl _⟩
theorem zeI(hr:zaF ns){h v:Int}(hv:v<24)(hh:zaP ns h=true):zaP ns (hiS ns h v)=true/\(v<=zaa ns h->v<zaa ns (hiS ns h v))/\zaa ns h<=zaa ns (hiS ns h v):=by
  unfold hiS
  by_cases e:zaa ns h=v
  · rw[if_pos e]
    have:=zlS hr (h:=h) (by omega);exact⟨this.2.2.2,fun _=>by omega,by omega⟩
  · rw[if_neg e];exact⟨hh,fun h=>by omega,Int.le_refl _⟩
theorem zcB(hr:zaF ns){h v:Int}(hv:v<24)(f:Nat->Bool):sem ns h f=if f v.toNat then sem ns (hiS ns h v) f else sem ns (loS ns h v) f:=by
  unfold loS hiS
  by_cases e:zaa ns h=v
  · rw[if_pos e,if_pos e,zdV hr (by omega),e]
  · rw[if_neg e,if_neg e];split<;>rfl
theorem zfv(hr:zaF ns){f g:Nat->Bool}:∀(d:Nat) (h:Int),(∀i:Nat,zaa ns h<=(i:Int)->f i=g i)->zhz d ns h f=zhz d ns h g
  |0,_,_=>rfl
  |d+1,h,hfg=>by
    unfold zhz
    by_cases ht:zaa ns h=24
    · rw[if_pos ht,if_pos ht]
    · rw[if_neg ht,if_neg ht]
      obtain⟨k1,-,k2,-⟩:=zlS hr ht;have h0:=(zam hr h).1;rw[hfg (zaa ns h).toNat (by omega),zfv hr d _ (fun i hi=>hfg i (by omega)),zfv hr d (nd ns (pl h)).l (fun i hi=>hfg i (by omega))]
theorem zcG(hr:zaF ns){f g:Nat->Bool}{h:Int}(hfg:∀i:Nat,zaa ns h<=(i:Int)->f i=g i):sem ns h f=sem ns h g:=zfv hr 24 h hfg
def turn(f:Nat->Bool)(v:Nat)(b:Bool):Nat->Bool:=fun i=>if i=v then b else f i
theorem zeF(f:Nat->Bool){v i:Nat}(b:Bool)(h:i≠v):turn f v b i=f i:=if_neg h
theorem zh6(f:Nat->Bool)(v:Nat)(b:Bool):turn f v b v=b:=if_pos rfl
theorem zny(hr:zaF ns){a b v:Int}(hv0:0<=v)(hv:v<24)(ha:zaP ns a=true)(hb:zaP ns b=true)(hta:v<=zaa ns a)(htb:v<=zaa ns b)(h:∀f,sem ns a f=sem ns b f) :
    (∀f,sem ns (loS ns a v) f=sem ns (loS ns b v) f)/\(∀f,sem ns (hiS ns a v) f=sem ns (hiS ns b v) f):=by
  have la:=(zev hr hv ha).2.1 hta;have lb:=(zev hr hv hb).2.1 htb;have ga:=(zeI hr hv ha).2.1 hta;have gb:=(zeI hr hv hb).2.1 htb;refine⟨fun f=>?_,fun f=>?_⟩
  · have:=h (turn f v.toNat false)
    rw[zcB hr hv,zcB (h:=b) hr hv] at this;rw[zh6,if_neg (by simp),if_neg (by simp),zcG hr (g:=f) (fun i hi=>zeF _ _ (by omega)),zcG (h:=loS ns b v) hr (g:=f) (fun i hi=>zeF _ _ (by omega))] at this;exact this
  · have:=h (turn f v.toNat true)
    rw[zcB hr hv,zcB (h:=b) hr hv] at this;rw[zh6,if_pos rfl,if_pos rfl,zcG hr (g:=f) (fun i hi=>zeF _ _ (by omega)),zcG (h:=hiS ns b v) hr (g:=f) (fun i hi=>zeF _ _ (by omega))] at this;exact this
theorem zxN{a b:Nd}(h0:a.v=b.v)(h1:a.l=b.l)(h2:a.h=b.h):a=b:=by cases a;cases b;cases h0;cases h1;cases h2;rfl
theorem zr7{vars:Nat}(hg:zcq vars ns):∀(d:Nat) (a b:Int),24<=zaa ns a+d->24<=zaa ns b+d->zaP ns a=true->zaP ns b=true->(∀f,sem ns a f=sem ns b f)->a=b
  |0,a,b,da,db,ha,hb,h=>by
    have ta:=(zam hg.ranked a).2;have tb:=(zam hg.ranked b).2;have:=h (fun _=>false);rw[ziJ (by omega),ziJ (by omega)] at this;rcases zgF ha (by omega) with rfl|rfl<;>rcases zgF hb (by omega) with rfl|rfl<;>simp at this ⊢
  |d+1,a,b,da,db,ha,hb,h=>by
    have ta:=zam hg.ranked a;have tb:=zam hg.ranked b
    by_cases e:zaa ns a=24/\zaa ns b=24
    · exact zr7 hg 0 a b (by omega) (by omega) ha hb h
    · have hr:=hg.ranked
      obtain⟨v,hv,hva,hvb,hve⟩:∃v,v<24/\v<=zaa ns a/\v<=zaa ns b/\(v=zaa ns a\/v=zaa ns b):=by
        rcases Int.lt_or_le (zaa ns a) (zaa ns b) with h1|h1
        · exact⟨zaa ns a,by omega,by omega,by omega,.inl rfl⟩
        · exact⟨zaa ns b,by omega,by omega,by omega,.inr rfl⟩
      have hv0:0<=v:=by omega
      obtain⟨sl,sh⟩:=zny hr hv0 hv ha hb hva hvb h;have la:=zev hr hv ha;have lb:=zev hr hv hb;have ga:=zeI hr hv ha;have gb:=zeI hr hv hb;have e1:=zr7 hg d _ _ (by have:=la.2.1 hva;omega) (by have:=lb.2.1 hvb;omega) la.1 lb.1 sl;have e2:=zr7 hg d _ _ (by have:=ga.2.1 hva;omega) (by have:=gb.2.1 hvb;omega) ga.1 gb.1 sh
      by_cases ca:zaa ns a=v
      · obtain⟨na1,na2,na3,na4⟩:=zbq (ns:=ns) (h:=a) (by omega)
        by_cases cb:zaa ns b=v
        · obtain⟨nb1,nb2,nb3,nb4⟩:=zbq (ns:=ns) (h:=b) (by omega)
          unfold loS at e1;unfold hiS at e2;rw[if_pos ca,if_pos cb] at e1 e2;have:=hg.once (pl a) (pl b) na2 nb2 (by omega) (by
            have e0:(nd ns (pl a)).v=(nd ns (pl b)).v:=by omega
            exact zxN e0 e1 e2)
          rw[na4,nb4,this]
        · unfold loS at e1;unfold hiS at e2
          rw[if_pos ca,if_neg cb] at e1 e2;exact absurd (e1.trans e2.symm) (hg.red _ na2 (by omega))
      · have cb:zaa ns b=v:=by omega
        obtain⟨nb1,nb2,nb3,nb4⟩:=zbq (ns:=ns) (h:=b) (by omega);unfold loS at e1;unfold hiS at e2;rw[if_neg ca,if_pos cb] at e1 e2;exact absurd (e1.symm.trans e2) (hg.red _ nb2 (by omega))
theorem zdm{vars:Nat}(hg:zcq vars ns){a b:Int}(ha:zaP ns a=true)(hb:zaP ns b=true)(h:∀f,sem ns a f=sem ns b f):a=b :=
  zr7 hg 24 a b (by have:=(zam hg.ranked a).1;omega) (by have:=(zam hg.ranked b).1;omega) ha hb h
structure Ext(ns ns':List Nd):Prop where
  has:∀h,zaP ns h=true->zaP ns' h=true
  top:∀h,zaP ns h=true->zaa ns' h=zaa ns h
  node:∀h,zaP ns h=true->zaa ns h≠24->nd ns' (pl h)=nd ns (pl h)
theorem Ext.refl(ns:List Nd):Ext ns ns:=⟨fun _ h=>h,fun _ _=>rfl,fun _ _ _=>rfl⟩
theorem Ext.trans{a b c:List Nd}(h:Ext a b)(k:Ext b c):Ext a c :=
  ⟨fun x hx=>k.has x (h.has x hx),fun x hx=>(k.top x (h.has x hx)).trans (h.top x hx),fun x hx ht=>(k.node x (h.has x hx) (by rw[h.top x hx];exact ht)).trans (h.node x hx ht)⟩
theorem ziL{ns':List Nd}(hr:zaF ns)(he:Ext ns ns')(f:Nat->Bool):∀(d:Nat) (h:Int),zaP ns h=true->zhz d ns' h f=zhz d ns h f
  |0,_,_=>rfl
  |d+1,h,hh=>by
    unfold zhz;rw[he.top h hh]
    by_cases ht:zaa ns h=24
    · rw[if_pos ht,if_pos ht]
    · obtain⟨-,k1,-,k2⟩:=zlS hr ht
      rw[if_neg ht,if_neg ht,he.node h hh ht,ziL hr he f d _ k1,ziL hr he f d _ k2]
theorem zbM{ns':List Nd}(hr:zaF ns)(he:Ext ns ns'){h:Int}(hh:zaP ns h=true)(f:Nat->Bool):sem ns' h f=sem ns h f:=ziL hr he f 24 h hh
theorem zuG{k:Nat}{n:Nd}(hk:k<=ns.length)(hfree:k<ns.length->¬(nd ns k).v<24)(hr:zaF ns):Ext ns (zd2 ns k n) :=
  ⟨fun _ hh=>zeX hk hfree hh,fun _ hh=>zdU hk hfree hh,fun _ _ ht=>(zjC hk hfree (zhv hr ht)).1⟩
end
end Bd
namespace Bd
open Go.RowKit Go.Maps
def zkt(n:Nat):Nat->Bool:=fun i=>n.testBit i
end Bd
namespace Bd
open Go.RowKit Go.Maps
def zbr(ns:List Nd):Nat:=ns.findIdx fun n=>!decide (n.v<24)
def idx(ns:List Nd)(n:Nd):Nat:=ns.findIdx fun m=>decide (m=n)
def cnt(ns:List Nd):Nat:=(ns.filter fun n=>decide (n.v<24)).length
section
variable {ns:List Nd}
theorem zcR(ns:List Nd):zbr ns<=ns.length:=List.findIdx_le_length
theorem zgo{j:Nat}(h:j<zbr ns):(nd ns j).v<24:=by
  have hl:j<ns.length:=Nat.lt_of_lt_of_le h (zcR ns);have:=List.not_of_lt_findIdx h;rw[zhm ns j hl];simpa using this
theorem zfr(h:zbr ns<ns.length):¬(nd ns (zbr ns)).v<24:=by
  have:=List.findIdx_getElem (w:=h);rw[zhm ns _ h];unfold zbr;simpa using this
theorem zrz{k:Nat}(hk:k<=ns.length)(ht:∀j,j<k->(nd ns j).v<24)(hf:k<ns.length->¬(nd ns k).v<24):k=zbr ns:=by
  rcases Nat.lt_trichotomy k (zbr ns) with h|h|h
  · exact absurd (zgo h) (hf (Nat.lt_of_lt_of_le h (zcR ns)))
  · exact h
  · exact absurd (ht _ h) (zfr (by omega))
theorem zjo{n:Nd}(h:idx ns n<ns.length):nd ns (idx ns n)=n:=by
  have:=List.findIdx_getElem (w:=h);rw[zhm ns _ h];unfold idx;simpa using this
theorem zmE{n:Nd}(h:¬idx ns n<ns.length){j:Nat}(hj:j<ns.length):nd ns j≠n:=by
  have:j<idx ns n:=by omega
  have:=List.not_of_lt_findIdx this;rw[zhm ns j hj];simpa using this
def zfM(ns:List Nd)(n:Nd):List Nd × Int:=if idx ns n<ns.length then (ns,2+(idx ns n:Int)) else (zd2 ns (zbr ns) n,2+(zbr ns:Int))
def zcE(ns:List Nd)(v l h:Int):List Nd × Int:=if l=h then (ns,l) else zfM ns ⟨v,l,h⟩
theorem znH(ns:List Nd)(n:Nd):cnt (zd2 ns (zbr ns) n)<=cnt ns+1:=by
  unfold cnt zd2;have key:∀(l:List Nd) (k:Nat),((l.set k n).filter fun n=>decide (n.v<24)).length<=(l.filter fun n=>decide (n.v<24)).length+1:=by
    intro l
    induction l with
    |nil=>intro k;simp
    |cons a l ih =>
      intro k;cases k with
      |zero =>simp only[List.set_cons_zero,List.filter_cons];split<;>split<;>simp<;>omega
      |succ k =>
        simp only[List.set_cons_succ,List.filter_cons];have:=ih k;split
        · simp only[List.length_cons];omega
        · exact this
  refine Nat.le_trans (key _ _) ?_;split
  · rw[List.filter_append];simp
  · exact Nat.le_refl _
theorem zsF{vars:Nat}(hg:zcq vars ns){n:Nd}(hn:n.Ok)(hf:Fit ns n)(hne:n.l≠n.h)(hv:n.v<(vars:Int))(hnin:∀j,j<ns.length->nd ns j≠n):zcq vars (zd2 ns (zbr ns) n):=by
  have hk:=zcR ns;have hfr:zbr ns<ns.length->¬(nd ns (zbr ns)).v<24:=zfr;have key:∀j,j<(zd2 ns (zbr ns) n).length->nd (zd2 ns (zbr ns) n) j=n/\j=zbr ns\/j<ns.length/\j≠zbr ns/\nd (zd2 ns (zbr ns) n) j=nd ns j:=fun j hj=>by
    have hj':=(zdT hk j).1 hj
    by_cases e:j=zbr ns
    · exact .inl ⟨by rw[zb7 hk j hj',if_pos e],e⟩
    · exact .inr ⟨by omega,e,by rw[zb7 hk j hj',if_neg e]⟩
  refine⟨zkE hg.ranked hk hfr hn hf,fun i j hi hj hvi e=>?_,fun i hi hvi=>?_,fun i hi hvi=>?_,fun i hi hvi=>?_⟩
  · rcases key i hi with ⟨e1,x1⟩|⟨l1,n1,e1⟩<;>rcases key j hj with ⟨e2,x2⟩|⟨l2,n2,e2⟩
    · omega
    · rw[e1,e2] at e;exact absurd e.symm (hnin j l2)
    · rw[e1,e2] at e;exact absurd e (hnin i l1)
    · rw[e1] at hvi;rw[e1,e2] at e;exact hg.once i j l1 l2 hvi e
  · rcases key i hi with ⟨e1,-⟩|⟨l1,-,e1⟩<;>rw[e1] at hvi ⊢
    · exact hne
    · exact hg.red i l1 hvi
  · rcases key i hi with ⟨e1,-⟩|⟨l1,-,e1⟩<;>rw[e1] at hvi ⊢
    · exact hv
    · exact hg.vars i l1 hvi
  · rcases key i hi with ⟨e1,-⟩|⟨l1,-,e1⟩<;>rw[e1] at hvi ⊢
    · exact absurd hf.v1 hvi
    · exact hg.free i l1 hvi
theorem zr0:∀(ns:List Nd),¬zbr ns<ns.length->cnt ns=ns.length:=fun ns h=>by
  unfold cnt;rw[List.filter_eq_self.2];intro a ha;obtain⟨i,hi,rfl⟩:=List.getElem_of_mem ha;have:=zgo (ns:=ns) (j:=i) (by have:=zcR ns;omega);rw[zhm ns i hi] at this;simpa using this
theorem zo2(ns:List Nd)(n:Nd):(zd2 ns (zbr ns) n).length<=max ns.length (cnt ns+1):=by
  by_cases h:zbr ns<ns.length
  · have:(zd2 ns (zbr ns) n).length=ns.length:=by unfold zd2;rw[if_neg (by omega)];simp
    omega
  · have h1:=zr0 ns h
    have h2:=(zes (n:=n) (zcR ns)).1;omega
structure zys(vars:Nat)(ns:List Nd)(v l h:Int)(r:List Nd × Int):Prop where
  good:zcq vars r.1
  ext:Ext ns r.1
  has:zaP r.1 r.2=true
  sem:∀f,sem r.1 r.2 f=if f v.toNat then sem ns h f else sem ns l f
  top:v<=zaa r.1 r.2
  cnt:cnt r.1<=cnt ns+1
  len:r.1.length<=ns.length+1
  tight:r.1.length<=max ns.length (Go.Proofs.YtiihalknffbjpaaGreatDoor.Bd.cnt ns+1)
  i64:I64 r.2
theorem zbg{h:Int}(hh:zaP ns h=true)(hl:ns.length<=1000000):I64 h:=by
  rcases ze9 hh with rfl|rfl|ht
  · exact⟨by omega,by omega⟩
  · exact⟨by omega,by omega⟩
  · obtain⟨h1,h2,-,h4⟩:=zbq (ns:=ns) (h:=h) (by omega)
    exact⟨by omega,by omega⟩
theorem zde{vars:Nat}(hg:zcq vars ns){v l h:Int}(hl:ns.length<=900000)(h0:0<=v)(h24:v<24)(hv:v<(vars:Int))(hl1:zaP ns l=true)(hh1:zaP ns h=true)(tl:v<zaa ns l)(th:v<zaa ns h):zys vars ns v l h (zcE ns v l h):=by
  unfold zcE
  by_cases e:l=h
  · rw[if_pos e]
    subst e;exact⟨hg,Ext.refl _,hl1,fun f=>by split<;>rfl,by show v<=zaa ns l;omega,Nat.le_succ _,Nat.le_succ _,Nat.le_max_left _ _,zbg hl1 (by omega)⟩
  · rw[if_neg e]
    unfold zfM;have hi1:=zbg hl1 (by omega);have hi2:=zbg hh1 (by omega)
    by_cases c:idx ns ⟨v,l,h⟩<ns.length
    · rw[if_pos c]
      have ha:=zjo c;have ht:zaa ns (2+(idx ns ⟨v,l,h⟩:Int))=v:=by rw[zdh c,ha]
      have hp:pl (2+(idx ns ⟨v,l,h⟩:Int))=idx ns ⟨v,l,h⟩:=by unfold pl;omega
      refine⟨hg,Ext.refl _,?_,fun f=>?_,?_,Nat.le_succ _,Nat.le_succ _,Nat.le_max_left _ _,⟨by show _<=(2+_:Int);omega,by show (2+_:Int)<=_;omega⟩⟩
      · show zaP ns _=true;unfold zaP;rw[ht];simp[h24]
      · show Go.Proofs.YtiihalknffbjpaaGreatDoor.Bd.sem ns _ f=_
        rw[zdV hg.ranked (by rw[ht];omega),ht,hp,ha]
      · show v<=zaa ns (2+(idx ns ⟨v,l,h⟩:Int));omega
    · rw[if_neg c]
      have hnin:∀j,j<ns.length->nd ns j≠⟨v,l,h⟩:=fun j hj=>zmE c hj;have hf:Fit ns ⟨v,l,h⟩:=⟨h0,h24,hl1,hh1,tl,th⟩;have hgp:=zsF hg ⟨⟨by show _<=v;omega,by show v<=_;omega⟩,hi1,hi2⟩ hf e hv hnin;have hk:=zcR ns;have hx:Ext ns (zd2 ns (zbr ns) ⟨v,l,h⟩):=zuG hk zfr hg.ranked;have ht:zaa (zd2 ns (zbr ns) ⟨v,l,h⟩) (2+(zbr ns:Int))=v:=zkb hk;have hp:pl (2+(zbr ns:Int))=zbr ns:=by unfold pl;omega
      refine⟨hgp,hx,?_,fun f=>?_,?_,znH _ _,(zes hk).1,zo2 _ _,⟨by show _<=(2+_:Int);omega,by show (2+_:Int)<=_;omega⟩⟩
      · show zaP _ _=true;unfold zaP;rw[ht];simp[h24]
      · show Go.Proofs.YtiihalknffbjpaaGreatDoor.Bd.sem _ _ f=_
        rw[zdV hgp.ranked (by rw[ht];omega),ht,hp,zb7 hk _ (.inr rfl),if_pos rfl,zbM hg.ranked hx hl1,zbM hg.ranked hx hh1]
      · show v<=zaa (zd2 ns (zbr ns) ⟨v,l,h⟩) (2+(zbr ns:Int));omega
end
end Bd
namespace Bd
open Go.RowKit Go.Maps
def zhQ(k:Nd):Option Int:=if k.v=1\/k.l=k.h then some k.l else if k.v=0 then some k.h else if k.l=1/\k.h=0 then some k.v else none
def zxE(k:Nd):Option Int:=if k.v=k.l then some 0 else if k.v=0 then some k.l else if k.l=0 then some k.v else none
def za2(op:Bool)(k:Nd):Option Int:=if op=true then zhQ k else zxE k
def opS(op a b c:Bool):Bool:=if op=true then (if a=true then b else c) else (a != b)
def zay(ns:List Nd)(k:Nd):Int:=min (min (zaa ns k.v) (zaa ns k.l)) (zaa ns k.h)
def loK(ns:List Nd)(k:Nd)(v:Int):Nd:=⟨loS ns k.v v,loS ns k.l v,loS ns k.h v⟩
def hiK(ns:List Nd)(k:Nd)(v:Int):Nd:=⟨hiS ns k.v v,hiS ns k.l v,hiS ns k.h v⟩
def look{α:Type}[DecidableEq α](m:List (α × Int))(k:α):Option Int:=(m.find? fun p=>decide (p.1=k)).map Prod.snd
def zco{α:Type}[DecidableEq α](m:List (α × Int))(k:α)(h:Int):List (α × Int):=if k∈m.map Prod.fst then m.map (fun q=>if q.1=k then (q.1,h) else q) else m++[(k,h)]
def zak:Nat->Bool->List Nd->List (Nd × Int)->Nd->List Nd × List (Nd × Int) × Int
  |0,op,ns,m,k=>(ns,m,(za2 op k).getD 0)
  |d+1,op,ns,m,k =>
    match za2 op k with
    |some h=>(ns,m,h)
    |none =>
      match look m k with
      |some h=>(ns,m,h)
      |none =>
        let r1:=zak d op ns m (loK ns k (zay ns k))
        let r2:=zak d op r1.1 r1.2.1 (hiK ns k (zay ns k))
        let r3:=zcE r2.1 (zay ns k) r1.2.2 r2.2.2
        (r3.1,zco r2.2.1 k r3.2,r3.2)
section
variable {α:Type} [DecidableEq α] {m:List (α × Int)} {k:α}
theorem zmW{h:Int}(e:look m k=some h):(k,h)∈m:=by
  unfold look at e;obtain⟨p,hp,rfl⟩:=Option.map_eq_some_iff.1 e;have h1:=List.find?_some hp;have h2:=List.mem_of_find?_eq_some hp;simp at h1;subst h1;exact h2
theorem zvW(e:look m k=none):k∉m.map Prod.fst:=by
  unfold look at e;rw[Option.map_eq_none_iff,List.find?_eq_none] at e;intro h;obtain⟨p,hp,rfl⟩:=List.mem_map.1 h;exact e p hp (by simp)
theorem zdk{h:Int}{p:α × Int}(hp:p∈zco m k h):p=(k,h)\/p∈m:=by
  unfold zco at hp;split at hp
  · obtain⟨q,hq,rfl⟩:=List.mem_map.1 hp
    by_cases e:q.1=k
    · rw[if_pos e];exact .inl (by rw[e])
    · rw[if_neg e];exact .inr hq
  · rcases List.mem_append.1 hp with hp|hp
    · exact .inr hp
    · rw[List.mem_singleton] at hp;exact .inl hp
theorem zlw(h:Int):(zco m k h).length<=m.length+1:=by
  unfold zco;split
  · simp
  · simp
end
structure zhY(ns:List Nd)(k:Nd):Prop where
  a:zaP ns k.v=true
  b:zaP ns k.l=true
  c:zaP ns k.h=true
structure zeY(op:Bool)(ns:List Nd)(m:List (Nd × Int)):Prop where
  keys:∀p∈m,zhY ns p.1
  has:∀p∈m,zaP ns p.2=true
  top:∀p∈m,zay ns p.1<=zaa ns p.2
  sem:∀p∈m,∀f,sem ns p.2 f=opS op (sem ns p.1.v f) (sem ns p.1.l f) (sem ns p.1.h f)
section
variable {ns:List Nd} {op:Bool} {m:List (Nd × Int)} {k:Nd} {vars:Nat}
theorem zgQ(ns:List Nd)(k:Nd):zay ns k<=zaa ns k.v/\zay ns k<=zaa ns k.l/\zay ns k<=zaa ns k.h:=by unfold zay;omega
theorem zoW{x:Int}(h1:x<=zaa ns k.v)(h2:x<=zaa ns k.l)(h3:x<=zaa ns k.h):x<=zay ns k:=by unfold zay;omega
theorem zdI(hr:zaF ns)(k:Nd):0<=zay ns k/\zay ns k<=24:=by
  have h1:=zam hr k.v;have h2:=zam hr k.l;have h3:=zam hr k.h;unfold zay;omega
theorem zhY.ext{ns':List Nd}(h:zhY ns k)(he:Ext ns ns'):zhY ns' k:=⟨he.has _ h.a,he.has _ h.b,he.has _ h.c⟩
theorem zeO{ns':List Nd}(h:zhY ns k)(he:Ext ns ns'):zay ns' k=zay ns k:=by unfold zay;rw[he.top _ h.a,he.top _ h.b,he.top _ h.c]
theorem zeY.ext{ns':List Nd}(hr:zaF ns)(h:zeY op ns m)(he:Ext ns ns'):zeY op ns' m :=
  ⟨fun p hp=>(h.keys p hp).ext he,fun p hp=>he.has _ (h.has p hp),fun p hp=>by rw [zeO (h.keys p hp) he,he.top _ (h.has p hp)];exact h.top p hp,
   fun p hp f=>by rw [zbM hr he (h.has p hp),zbM hr he (h.keys p hp).a,zbM hr he (h.keys p hp).b,zbM hr he (h.keys p hp).c];exact h.sem p hp f⟩
theorem zwr{h:Int}(hh:h=0\/h=1):zaa ns h=24:=by rcases hh with rfl|rfl<;>simp[zaa]
theorem zmf(hr:zaF ns){h:Int}(h3:zhY ns k)(e:za2 op k=some h):zaP ns h=true/\zay ns k<=zaa ns h/\∀f,sem ns h f=opS op (sem ns k.v f) (sem ns k.l f) (sem ns k.h f):=by
  obtain⟨m1,m2,m3⟩:=zgQ ns k;have mb:=(zdI hr k).2;unfold za2 at e;cases op with
  |true =>
    simp only[if_true] at e;unfold zhQ at e;split at e
    · rename_i c
      cases e;refine⟨h3.b,m2,fun f=>?_⟩;rcases c with c|c
      · rw[c,zbJ];simp[opS]
      · rw[c];simp only[opS,if_true];split<;>rfl
    · split at e
      · rename_i c
        cases e;refine⟨h3.c,m3,fun f=>?_⟩;rw[c,zbm];simp[opS]
      · split at e
        · rename_i c
          cases e;refine⟨h3.a,m1,fun f=>?_⟩;rw[c.1,c.2,zbJ,zbm];simp only[opS,if_true];cases sem ns k.v f<;>rfl
        · cases e
  |false =>
    simp only[Bool.false_eq_true,if_false] at e;unfold zxE at e;split at e
    · rename_i c
      cases e;refine⟨by simp[zaP],by rw[zwr (.inl rfl)];exact mb,fun f=>?_⟩;rw[c,zbm];simp[opS]
    · split at e
      · rename_i c
        cases e;refine⟨h3.b,m2,fun f=>?_⟩;rw[c,zbm];simp[opS]
      · split at e
        · rename_i c
          cases e;refine⟨h3.a,m1,fun f=>?_⟩;rw[c,zbm];simp[opS]
        · cases e
theorem zcY(hr:zaF ns)(h3:zhY ns k)(e:za2 op k=none):zay ns k<24:=by
  have tv:=zam hr k.v;have tl:=zam hr k.l;obtain⟨m1,m2,m3⟩:=zgQ ns k;unfold za2 at e;cases op with
  |true =>
    simp only[if_true] at e;unfold zhQ at e;split at e
    · cases e
    · split at e
      · cases e
      · rename_i c1 c2
        by_cases t:zaa ns k.v=24
        · rcases zgF h3.a t with h|h
          · exact absurd h c2
          · exact absurd (.inl h) c1
        · omega
  |false =>
    simp only[Bool.false_eq_true,if_false] at e;unfold zxE at e;split at e
    · cases e
    · split at e
      · cases e
      · split at e
        · cases e
        · rename_i c1 c2 c3
          by_cases t:zaa ns k.v=24
          · by_cases u:zaa ns k.l=24
            · rcases zgF h3.a t with h|h<;>rcases zgF h3.b u with g|g<;>first|exact absurd h c2|exact absurd g c3|exact absurd (h.trans g.symm) c1
            · omega
          · omega
def rk(vars:Nat)(ns:List Nd)(k:Nd):Nat:=((vars:Int)-zay ns k).toNat
structure zrg(vars:Nat)(op:Bool)(ns:List Nd)(m:List (Nd × Int))(k:Nd)(r:List Nd × List (Nd × Int) × Int):Prop where
  good:zcq vars r.1
  ext:Ext ns r.1
  memo:zeY op r.1 r.2.1
  has:zaP r.1 r.2.2=true
  sem:∀f,sem r.1 r.2.2 f=opS op (sem ns k.v f) (sem ns k.l f) (sem ns k.h f)
  top:zay ns k<=zaa r.1 r.2.2
  cnt:cnt r.1+1<=cnt ns+2^rk vars ns k
  len:r.1.length+1<=ns.length+2^rk vars ns k
  tight:r.1.length+1<=max (ns.length+1) (Go.Proofs.YtiihalknffbjpaaGreatDoor.Bd.cnt ns+2^rk vars ns k)
  mlen:r.2.1.length+1<=m.length+2^rk vars ns k
theorem zku(hr:zaF ns)(h3:zhY ns k)(hv:zay ns k<24):zhY ns (loK ns k (zay ns k))/\zay ns k<zay ns (loK ns k (zay ns k)):=by
  obtain⟨m1,m2,m3⟩:=zgQ ns k;have a:=zev hr hv h3.a;have b:=zev hr hv h3.b;have c:=zev hr hv h3.c;refine⟨⟨a.1,b.1,c.1⟩,?_⟩;have:=zoW (ns:=ns) (k:=loK ns k (zay ns k)) (x:=zay ns k+1) (a.2.1 m1) (b.2.1 m2) (c.2.1 m3);omega
theorem zkL(hr:zaF ns)(h3:zhY ns k)(hv:zay ns k<24):zhY ns (hiK ns k (zay ns k))/\zay ns k<zay ns (hiK ns k (zay ns k)):=by
  obtain⟨m1,m2,m3⟩:=zgQ ns k;have a:=zeI hr hv h3.a;have b:=zeI hr hv h3.b;have c:=zeI hr hv h3.c;refine⟨⟨a.1,b.1,c.1⟩,?_⟩;have:=zoW (ns:=ns) (k:=hiK ns k (zay ns k)) (x:=zay ns k+1) (a.2.1 m1) (b.2.1 m2) (c.2.1 m3);omega
theorem zd0(hg:zcq vars ns){h:Int}(ht:zaa ns h≠24):zaa ns h<(vars:Int):=by
  obtain⟨h1,h2,h3,-⟩:=zbq ht;have:=zhv hg.ranked ht;rw[h3] at this ⊢;exact hg.vars _ h2 this
theorem zg1(hg:zcq vars ns)(hv:zay ns k<24):zay ns k<(vars:Int):=by
  have:zay ns k=zaa ns k.v\/zay ns k=zaa ns k.l\/zay ns k=zaa ns k.h:=by unfold zay;omega
  rcases this with e|e|e<;>rw[e] at hv ⊢<;>exact zd0 hg (by omega)
theorem zwT(op c a b d x y z:Bool):opS op (if c=true then a else x) (if c=true then b else y) (if c=true then d else z)=if c=true then opS op a b d else opS op x y z:=by
  cases c<;>simp
theorem zgK(hg:zcq vars ns)(hm:zeY op ns m){h:Int}(hh:zaP ns h=true)(ht:zay ns k<=zaa ns h)(hs:∀f,Go.Proofs.YtiihalknffbjpaaGreatDoor.Bd.sem ns h f=opS op (Go.Proofs.YtiihalknffbjpaaGreatDoor.Bd.sem ns k.v f) (Go.Proofs.YtiihalknffbjpaaGreatDoor.Bd.sem ns k.l f) (Go.Proofs.YtiihalknffbjpaaGreatDoor.Bd.sem ns k.h f)):zrg vars op ns m k (ns,m,h):=by
  have:=Nat.one_le_two_pow (n:=rk vars ns k);exact⟨hg,Ext.refl _,hm,hh,hs,ht,by show Go.Proofs.YtiihalknffbjpaaGreatDoor.Bd.cnt ns+1<=_;omega,by show ns.length+1<=_;omega,by show ns.length+1<=_;omega,by show m.length+1<=_;omega⟩
theorem zcx:∀(d:Nat) (ns:List Nd) (m:List (Nd × Int)) (k:Nd),zcq vars ns->zeY op ns m->zhY ns k->24<=zay ns k+d->ns.length+2^rk vars ns k<=900000->zrg vars op ns m k (zak d op ns m k)
  |0,ns,m,k,hg,hm,h3,hd,_=>by
    unfold zak;cases e:za2 op k with
    |none=>have:=zcY hg.ranked h3 e;omega
    |some h =>obtain⟨a,b,c⟩:=zmf hg.ranked h3 e;exact zgK hg hm a b c
  |d+1,ns,m,k,hg,hm,h3,hd,hl=>by
    unfold zak;cases e:za2 op k with
    |some h =>obtain⟨a,b,c⟩:=zmf hg.ranked h3 e;exact zgK hg hm a b c
    |none =>
      cases e2:look m k with
      |some h =>have hp:=zmW e2;exact zgK hg hm (hm.has _ hp) (hm.top _ hp) (hm.sem _ hp)
      |none =>
        have hr:=hg.ranked;have hv:=zcY hr h3 e;have hvv:=zg1 hg hv;have hv0:=(zdI hr k).1;obtain⟨l3,lt⟩:=zku hr h3 hv;obtain⟨g3,gt⟩:=zkL hr h3 hv;have hpow:2^rk vars ns k=2^(rk vars ns k-1)+2^(rk vars ns k-1):=by
          have:1<=rk vars ns k:=by unfold rk;omega
          obtain⟨q,hq⟩:∃q,rk vars ns k=q+1:=⟨rk vars ns k-1,by omega⟩;rw[hq,Nat.add_sub_cancel,Nat.pow_succ];omega
        have pge:=Nat.one_le_two_pow (n:=rk vars ns k-1);have p1:2^rk vars ns (loK ns k (zay ns k))<=2^(rk vars ns k-1):=Nat.pow_le_pow_right (by omega) (by unfold rk;omega);have i1:=zcx d ns m (loK ns k (zay ns k)) hg hm l3 (by omega) (by omega);show zrg vars op ns m k (_,_,_);generalize zak d op ns m (loK ns k (zay ns k))=r1 at *;have g3':=g3.ext i1.ext;have gm:=zeO g3 i1.ext;have p2:2^rk vars r1.1 (hiK ns k (zay ns k))<=2^(rk vars ns k-1):=Nat.pow_le_pow_right (by omega) (by unfold rk;rw[gm];omega);have l1:=i1.len;have c1:=i1.cnt;have m1:=i1.mlen;have i2:=zcx d r1.1 r1.2.1 (hiK ns k (zay ns k)) i1.good i1.memo g3' (by rw[gm];omega) (by omega);generalize zak d op r1.1 r1.2.1 (hiK ns k (zay ns k))=r2 at *;have l2:=i2.len;have c2:=i2.cnt;have t1:=i1.tight;have t2:=i2.tight;have m2:=i2.mlen;have h1':=i2.ext.has _ i1.has;have t1':zaa r2.1 r1.2.2=zaa r1.1 r1.2.2:=i2.ext.top _ i1.has;have i3:=zde i2.good (v:=zay ns k) (l:=r1.2.2) (h:=r2.2.2) (by omega) hv0 hv hvv h1' i2.has (by rw[t1'];have:=i1.top;omega) (by have:=i2.top;rw[gm] at this;omega);generalize zcE r2.1 (zay ns k) r1.2.2 r2.2.2=r3 at *;have x13:=(i1.ext.trans i2.ext).trans i3.ext;have c3:=i3.cnt;have t3:=i3.tight;have l3':=i3.len;have hsem:∀f,Go.Proofs.YtiihalknffbjpaaGreatDoor.Bd.sem r3.1 r3.2 f=opS op (Go.Proofs.YtiihalknffbjpaaGreatDoor.Bd.sem ns k.v f) (Go.Proofs.YtiihalknffbjpaaGreatDoor.Bd.sem ns k.l f) (Go.Proofs.YtiihalknffbjpaaGreatDoor.Bd.sem ns k.h f):=fun f=>by
          rw [i3.sem f,zbM i1.good.ranked i2.ext i1.has,i1.sem f,i2.sem f,zbM hr i1.ext g3.a,zbM hr i1.ext g3.b,zbM hr i1.ext g3.c,
            zcB (h:=k.v) hr hv f,zcB (h:=k.l) hr hv f,zcB (h:=k.h) hr hv f,zwT]
          rfl
        have mp:=zlw (m:=r2.2.1) (k:=k) r3.2;have mo:=i2.memo.ext i2.good.ranked i3.ext;have htop:zay ns k<=zaa r3.1 r3.2:=i3.top;have h3x:=h3.ext x13;have mk:=zeO h3 x13;refine⟨i3.good,x13,⟨fun p hp=>?_,fun p hp=>?_,fun p hp=>?_,fun p hp f=>?_⟩,i3.has,hsem,htop,by show Go.Proofs.YtiihalknffbjpaaGreatDoor.Bd.cnt r3.1+1<=_;omega,by show r3.1.length+1<=_;omega,by show r3.1.length+1<=_;omega,by show (zco r2.2.1 k r3.2).length+1<=_;omega⟩
        · rcases zdk hp with rfl|hp
          · exact h3x
          · exact mo.keys p hp
        · rcases zdk hp with rfl|hp
          · exact i3.has
          · exact mo.has p hp
        · rcases zdk hp with rfl|hp
          · show zay r3.1 k<=_;rw[mk];exact htop
          · exact mo.top p hp
        · rcases zdk hp with rfl|hp
          · show Go.Proofs.YtiihalknffbjpaaGreatDoor.Bd.sem r3.1 r3.2 f=_
            rw[hsem f,zbM hr x13 h3.a,zbM hr x13 h3.b,zbM hr x13 h3.c]
          · exact mo.sem p hp f
end
end Bd
end Go.Proofs.YtiihalknffbjpaaGreatDoor
