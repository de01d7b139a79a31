/- The contract of Of. -/
import Derived.Test.YtlmmkbnjhilbdaaGreatDoorSpClauses
namespace Go.Proofs.YtlmmkbnjhilbdaaGreatDoor
set_option maxHeartbeats 4000000
set_option maxRecDepth 100000
namespace Bd
open Go.RowKit Go.Deep Sv
structure Zp(B:Nat)(w:World)(p s b:Nat)(O:Nat->Prop)(vars:Nat)(room:Int)(st:List Nd × Int):Prop where
 space:zo B w s b O vars room st.1
 blk:Blk w p 54 #[.pointer (some ⟨s,0,none⟩),.int .i64 st.2]
 out:¬O p
theorem zo.base{B B' s b vars:Nat}{O:Nat->Prop}{room:Int}{ns:List Nd}{w:World}(h:zo B w s b O vars room ns)(hB:B'<=B):zo B' w s b O vars room ns:=by
 obtain⟨bm,v,L,next,hA,h1,h2,h3⟩:=h.arena;exact⟨⟨bm,v,L,next,⟨hA.lt,hA.croom,hA.cnodes,hA.cmap,hA.cnext,hA.froz,Go.Proofs.YtlmmkbnjhilbdaaGreatDoor.Bd.ownsRow_base hA.row hB,hA.hmap,hA.d1,hA.d2,hA.d3,Nat.le_trans hB hA.B1,Nat.le_trans hB hA.B2⟩,h1,h2,h3⟩,fun k hk=>⟨Nat.le_trans hB (h.own k hk).1,(h.own k hk).2⟩,h.sO,h.slt,h.c0,h.c1⟩
theorem Zp.new{B p s b vars:Nat}{O:Nat->Prop}{room:Int}{st:List Nd × Int}{w w':World}(h:Zp B w p s b O vars room st)(hb:zB w w'):Zp B w' p s b O vars room st :=
 ⟨h.space.new hb,h.blk.below hb h.blk.lt,h.out⟩
theorem zhx{B:Nat}{W:World}{a:Option Addr}{c:Nat}{fv:Value}{P:List (Int × List Int)}(h:RS B W (.slice a P.length c) fv (P.map Prod.snd) (P.map Prod.fst)):yr W a (P.map Prod.snd):=by
 obtain⟨cs,h1,h2,_⟩:=h.crow;exact qe.cls (B:=0) (cap:=c) h2 (by simpa using ownsRow_base h1 (Nat.zero_le _))
theorem zln(bk:Nat)(ls:List Ln)(its:List It)(w:World)(h:qA w bk ls its)(hN:qq ls=.ok its)(hl:its.length<=10)(hll:ls.length<=120)(hnm:∀x∈ls,x.name.size<=100000/\x.other.size<=100000)(hP:(ofL its ls).length<=200)(room:Int)(hr0:0<=room)(hr4:room<=4000)(hrl:((2*2^its.length+25*its.length:Nat):Int)<=room+1) :
  zC 10 #[.pointer (some ⟨bk,0,none⟩),.int .i64 room] w fun e w'=>∃p s b O,e=.returned (.tuple #[.pointer (some ⟨p,0,none⟩),.nilIface])/\Zp w.heap.size w' p s b O its.length room (clF ((ofL its ls).map Prod.snd))/\zB w w':=by
 have HO:Hid (zC 16 #[.pointer (some ⟨bk,0,none⟩)] w fun e w'=>∃a c fa fn fc,e=.returned (.tuple #[.agg #[.int .i64 its.length,.slice a (ofL its ls).length c,.slice fa fn fc],.nilIface])/\yr w' a ((ofL its ls).map Prod.snd)/\zB w w'):=(zbB bk ls its w h (by omega) hll hnm).mono fun e w' hr=>by
  rcases hr with ⟨h1,-⟩|⟨-,cv,fv,h1,h2,h3⟩
  ·omega
  ·obtain⟨cs,c1,-⟩:=h2.crow;obtain⟨a,c,rfl,-,-⟩:=Go.Proofs.YtlmmkbnjhilbdaaGreatDoor.row_form c1;obtain⟨fa,fc,rfl,-,-⟩:=Go.Proofs.YtlmmkbnjhilbdaaGreatDoor.row_form h2.frow;rw[List.length_map] at h1 h2;exact⟨a,c,fa,_,fc,h1,zhx h2,h3⟩
 have hfine:=Xf hN;have hLL:qs its.length ((ofL its ls).map Prod.snd):=fun c hc=>by
  obtain⟨x,hx,rfl⟩:=List.mem_map.1 hc;exact(hfine x hx).1
 have hmc:∀c∈(ofL its ls).map Prod.snd,c.length<=9223372036854775807:=fun c hc=>by
  obtain⟨x,hx,rfl⟩:=List.mem_map.1 hc;have:=(hfine x hx).2;omega
 have hKl:((ofL its ls).map Prod.snd).length=(ofL its ls).length:=List.length_map _;generalize (ofL its ls).map Prod.snd=K at *;rw[<-hKl] at HO hP;have HLL:=zH hLL;have HMC:=zH hmc;have HRL:=zH hrl;clear h hnm hfine hLL hmc hN hKl hrl;generalize its.length=vars at *;go_enter Tryz.func10,Tryz.ntmps10;go_wp2_with fail;refine HO.out.mono ?_;rintro e w1 ⟨a,c,fa,fn,fc,rfl,hI1,hb1⟩;have kR:=Blk.new w1 26 #[.int .i64 vars,.slice a K.length c,.slice fa fn fc];have hbA:=Go.Proofs.YtlmmkbnjhilbdaaGreatDoor.below_new w1 (.cells #[.int .i64 vars,.slice a K.length c,.slice fa fn fc] 26);have hIA:=hI1.below hbA;have hb2:=zT hb1 hbA;clear HO hI1;go_upto_region 4 with fail;generalize w1.alloc (.cells #[.int .i64 vars,.slice a K.length c,.slice fa fn fc] 26)=WA at *;have HNW:=zH (zmB vars (by omega) room hr0 hr4 WA WA.heap.size zN);have HIA:=zH hIA;have HB2:=zH hb2;have kc0:=kR.cell 0;have KR:=zH kR;have hsz:=hb2.size;have hw1:=hbA.size;clear hIA hb2 kR hbA hb1;go_wp2_with fail;refine HNW.out.mono ?_;rintro e w2 ⟨s,b,O,rfl,hS,hs,hO,hb3⟩;have HCL:=zH (zpA (w0:=WA) hr4 HRL.out hb3 hS hl K HLL.out a c HIA.out (by omega) HMC.out);have kr2:w2.cell? ⟨w1.heap.size,1,none⟩=some (.slice a K.length c):=(KR.out.below hb3 KR.out.lt).cell 1;have hs2:=hS.slt;have HB3:=zH hb3;have hso:=fun k h=>(hS.own k h).2;clear hS hb3 HNW;go_wp2_with fail;refine HCL.out.mono ?_;rintro e w3 ⟨rfl,O3,hS3,hM3⟩;have hw3:=hM3.size;have hw2:=HB3.out.size;have hb4:zB WA w3:=HB3.out.trans (hM3.below hw2 hO);have hb5:zB w3 (w3.alloc (.cells #[.pointer (some ⟨s,0,none⟩),.int .i64 (clF K).2] 54)):=Go.Proofs.YtlmmkbnjhilbdaaGreatDoor.below_new w3 _;have HFIN:Hid (Zp w.heap.size (w3.alloc (.cells #[.pointer (some ⟨s,0,none⟩),.int .i64 (clF K).2] 54)) w3.heap.size s b O3 vars room (clF K)):=⟨(hS3.new hb5).base hsz,Blk.new _ _ _,fun h=>by have:=(hS3.own _ h).2;omega⟩;have HBF:Hid (zB w (w3.alloc (.cells #[.pointer (some ⟨s,0,none⟩),.int .i64 (clF K).2] 54))):=(HB2.out.trans (hb4.mono hsz)).trans (hb5.mono (by omega));clear hS3 hM3 hb4 hb5 HCL;go_wp2;go_ret2;exact⟨_,s,b,O3,rfl,HFIN.out,HBF.out⟩
end Bd
namespace Bd.Num
def S(B:Nat)(g:Nat->Nat):Nat->Nat
 |0=>0
 |k+1=>S B g k+g k*B^k
theorem Zy(B:Nat)(g:Nat->Nat)(k:Nat):S B g (k+1)=S B g k+g k*B^k:=rfl
def dig(ds:List Nat)(i:Nat):Nat:=ds.getD i 0
def val(B:Nat)(ds:List Nat):Nat:=S B (dig ds) ds.length
structure xP(B:Nat)(ds:List Nat):Prop where
 small:∀i,dig ds i<B
 last:ds.length≠0->dig ds (ds.length-1)≠0
theorem zaK(ds:List Nat)(i:Nat)(h:ds.length<=i):dig ds i=0:=by
 unfold dig;simp[List.getD_eq_getElem?_getD,List.getElem?_eq_none h]
theorem Kg(a:List Nat)(x:Nat)(i:Nat):dig (a++[x]) i=if i<a.length then dig a i else if i=a.length then x else 0:=by
 unfold dig;simp only[List.getD_eq_getElem?_getD]
 by_cases h:i<a.length
 ·rw[List.getElem?_append_left h,if_pos h]
 ·rw[if_neg h,List.getElem?_append_right (by omega)]
  by_cases e:i=a.length
  ·subst e;simp
  ·rw[if_neg e,List.getElem?_eq_none (by simp;omega)];rfl
theorem Y3(B:Nat)(g h:Nat->Nat):∀k,(∀i,i<k->g i=h i)->S B g k=S B h k
 |0,_=>rfl
 |k+1,e=>by rw[Zy,Zy,Y3 B g h k (fun i hi=>e i (by omega)),e k (by omega)]
theorem zaQ(B:Nat)(g:Nat->Nat)(k:Nat):∀m,(∀i,k<=i->g i=0)->S B g (k+m)=S B g k
 |0,_=>rfl
 |m+1,e=>by rw[<-Nat.add_assoc,Zy,zaQ B g k m e,e (k+m) (by omega)];simp
theorem QE(B:Nat)(ds:List Nat)(n:Nat)(h:ds.length<=n):S B (dig ds) n=val B ds:=by
 obtain⟨m,rfl⟩:=Nat.exists_eq_add_of_le h;exact zaQ B _ _ m (fun i hi=>zaK ds i hi)
theorem Kq(B:Nat)(g:Nat->Nat):∀k,(∀i,g i<B)->S B g k<B^k
 |0,_=>by simp[S]
 |k+1,e=>by
  have h1:=Kq B g k e;have h2:(g k+1)*B^k<=B*B^k:=Nat.mul_le_mul_right _ (e k);rw[Zy,Nat.pow_succ,Nat.mul_comm (B^k) B];rw[Nat.add_mul] at h2;omega
theorem zoS{B:Nat}{ds:List Nat}(h:∀i,dig ds i<B):val B ds<B^ds.length:=Kq B _ _ h
theorem zeK(B:Nat):val B []=0:=rfl
theorem zjG(i:Nat):dig [] i=0:=by unfold dig;simp
theorem zly{B:Nat}{ds:List Nat}(h:xP B ds)(hl:ds.length≠0):B^(ds.length-1)<=val B ds:=by
 obtain⟨k,hk⟩:∃k,ds.length=k+1:=⟨ds.length-1,by omega⟩;have h1:=h.last hl;unfold val;rw[hk] at h1 ⊢;rw[Zy];simp only[Nat.add_sub_cancel] at h1 ⊢;have:1*B^k<=dig ds k*B^k:=Nat.mul_le_mul_right _ (by omega);omega
theorem znp(B:Nat)(a:List Nat)(x:Nat):val B (a++[x])=val B a+x*B^a.length:=by
 unfold val;rw[List.length_append,List.length_singleton,Zy];rw[Y3 B (dig (a++[x])) (dig a) a.length (fun i hi=>by rw[Kg,if_pos hi])];rw[Kg,if_neg (by omega),if_pos rfl]
theorem zoA{B:Nat}{ds:List Nat}(hB:2<=B)(h:xP B ds){k:Nat}(hv:val B ds<B^k):ds.length<=k:=by
 by_cases hl:ds.length=0
 ·omega
 ·have h1:=zly h hl;have h2:B^(ds.length-1)<B^k:=by omega
  have h3:=(Nat.pow_lt_pow_iff_right (a:=B) (by omega)).1 h2;omega
theorem zjI{B x:Nat}{a:List Nat}(ha:∀i,dig a i<B)(hx:x<B)(i:Nat):dig (a++[x]) i<B:=by
 rw[Kg];have:=ha i;split
 ·exact this
 ·split
  ·exact hx
  ·omega
theorem zmP(a:List Nat)(x:Nat):dig (a++[x]) ((a++[x]).length-1)=x:=by
 rw[Kg];simp
theorem zmn{B n m:Nat}{ds:List Nat}(h:val B ds+m*B^ds.length=n):val B (ds++[m%B])+m/B*B^(ds++[m%B]).length=n:=by
 rw[znp,List.length_append,List.length_singleton,Nat.pow_succ,<-h];have h1:=Nat.div_add_mod m B;generalize B^ds.length=p at *;generalize m/B=q at *;generalize m%B=r at *;generalize val B ds=v at *;subst h1
 grind
theorem zhg{n m:Nat}{ds:List Nat}(hm:1<=m)(hn:n<=9223372036854775807)(h:val 1000000000 ds+m*1000000000^ds.length=n):ds.length<=2:=by
 apply Nat.le_of_not_lt;intro h3;have h4:1000000000^3<=1000000000^ds.length:=Nat.pow_le_pow_right (by omega) h3;have h5:1*1000000000^ds.length<=m*1000000000^ds.length:=Nat.mul_le_mul_right _ hm;omega
theorem Kh(ds:List Nat)(k i:Nat):dig (ds.take k) i=if i<k then dig ds i else 0:=by
 unfold dig;simp only[List.getD_eq_getElem?_getD,List.getElem?_take];split
 ·rfl
 ·rfl
theorem Xn(ds:List Nat)(k x i:Nat)(h:k<ds.length):dig (ds.set k x) i=if i=k then x else dig ds i:=by
 unfold dig;simp only[List.getD_eq_getElem?_getD,List.getElem?_set]
 by_cases e:k=i
 ·subst e;simp[h]
 ·rw[if_neg e,if_neg (fun h=>e h.symm)]
theorem zfK{B k:Nat}{ds:List Nat}(hk:k<=ds.length)(hz:∀i,k<=i->dig ds i=0):val B (ds.take k)=val B ds:=by
 unfold val;rw[List.length_take,Nat.min_eq_left hk];obtain⟨m,hm⟩:=Nat.exists_eq_add_of_le hk;rw[hm,zaQ B (dig ds) k m hz];exact Y3 B _ _ k (fun i hi=>by rw[Kh,if_pos hi])
theorem zfS{B k:Nat}{ds:List Nat}(hB:0<B)(sm:∀i,dig ds i<B)(hk:k<=ds.length)(hl:k≠0->dig ds (k-1)≠0):xP B (ds.take k):=by
 refine⟨fun i=>?_,fun h=>?_⟩
 ·rw[Kh];have:=sm i;split<;>omega
 ·rw[List.length_take,Nat.min_eq_left hk] at h ⊢;rw[Kh,if_pos (by omega)];exact hl h
theorem zeE(n i:Nat):dig (List.replicate n 0) i=0:=by
 unfold dig;simp only[List.getD_eq_getElem?_getD,List.getElem?_replicate];split<;>rfl
theorem zmh{B k c x y:Nat}{out:List Nat}{T U:Nat->Nat}(hk:k<out.length)(h:S B (dig out) k+c*B^k=S B T k+S B U k)(hx:T k=x)(hy:U k=y) :
  S B (dig (out.set k ((x+y+c)%B))) (k+1)+(x+y+c)/B*B^(k+1)=S B T (k+1)+S B U (k+1):=by
 rw[Zy,Zy,Zy,hx,hy];rw[Y3 B (dig (out.set k ((x+y+c)%B))) (dig out) k (fun i hi=>by rw[Xn _ _ _ _ hk,if_neg (by omega)])];rw[Xn _ _ _ _ hk,if_pos rfl,Nat.pow_succ];have h1:=Nat.div_add_mod (x+y+c) B;generalize (x+y+c)%B=r at *;generalize (x+y+c)/B=q at *;generalize B^k=p at *;generalize S B (dig out) k=s1 at *;generalize S B T k=s2 at *;generalize S B U k=s3 at *
 grind
theorem zfa{B n c s t:Nat}(h:s+c*B^n=t)(ht:t<B^n):c=0:=by
 rcases Nat.eq_zero_or_pos c with e|e
 ·exact e
 ·have:1*B^n<=c*B^n:=Nat.mul_le_mul_right _ e;omega
theorem zej{B k x:Nat}{out:List Nat}(hk:k<out.length)(sm:∀i,dig out i<B)(hx:x<B)(i:Nat):dig (out.set k x) i<B:=by
 rw[Xn _ _ _ _ hk];have:=sm i;split<;>omega
theorem zoB{B k c x P:Nat}{out:List Nat}{T:Nat->Nat}(hk:k<out.length)(h:S B (dig out) k+c*B^k=S B T k*P)(hx:T k=x) :
  S B (dig (out.set k ((x*P+c)%B))) (k+1)+(x*P+c)/B*B^(k+1)=S B T (k+1)*P:=by
 rw[Zy,Zy,hx];rw[Y3 B (dig (out.set k ((x*P+c)%B))) (dig out) k (fun i hi=>by rw[Xn _ _ _ _ hk,if_neg (by omega)])];rw[Xn _ _ _ _ hk,if_pos rfl,Nat.pow_succ];have h1:=Nat.div_add_mod (x*P+c) B;generalize (x*P+c)%B=r at *;generalize (x*P+c)/B=q at *;generalize B^k=p at *;generalize S B (dig out) k=s1 at *;generalize S B T k=s2 at *
 grind
open Go.Lib
end Bd.Num
namespace Bd
open Go.RowKit Num
def Dig(k:IntKind)(w:World)(v:Value)(ds:List Nat):Prop :=
 ∃a cap,v=.slice a ds.length cap/\ds.length<=cap/\∀i,i<ds.length->∃b off,a=some ⟨b,off,none⟩/\b<w.heap.size/\w.cell? ⟨b,off+i,none⟩=some (.int k ((dig ds i:Nat):Int))
theorem Dig.below{k:IntKind}{w w':World}{v:Value}{ds:List Nat}(h:Dig k w v ds)(hb:zB w w'):Dig k w' v ds:=by
 obtain⟨a,cap,hv,hc,hi⟩:=h;refine⟨a,cap,hv,hc,fun i hl=>?_⟩;obtain⟨b,off,ha,hlt,hcell⟩:=hi i hl;exact⟨b,off,ha,Nat.lt_of_lt_of_le hlt hb.size,(hb.cell (p:=⟨b,off+i,none⟩) hlt).trans hcell⟩
theorem Dig.set{k:IntKind}{w:World}{v:Value}{ds:List Nat}(h:Dig k w v ds){p:Addr}{u0:Value}(hp:w.cell? p=some u0)(hu:∀n,u0≠.int k n)(u:Value):Dig k (w.setCell p u) v ds:=by
 obtain⟨a,cap,hv,hc,hi⟩:=h;refine⟨a,cap,hv,hc,fun i hl=>?_⟩;obtain⟨b,off,ha,hb,hcell⟩:=hi i hl;refine⟨b,off,ha,by simpa[World.setCell] using hb,?_⟩;rw[World.cell?_setCell_other _ _ _ _ (fun e=>by subst e;rw[hp] at hcell;exact hu _ (Option.some.inj hcell))];exact hcell
theorem Dig.nil(k:IntKind)(w:World):Dig k w (.slice none 0 0) []:=⟨none,0,rfl,Nat.le_refl _,fun i h=>by simp at h⟩
def zX(k:IntKind)(ds:List Nat):List Value:=ds.map fun d:Nat=>Value.int k (d:Int)
theorem zgk(k:IntKind)(ds:List Nat):(zX k ds).length=ds.length:=by simp[zX]
theorem Y2(k:IntKind)(ds:List Nat)(x:Nat):zX k (ds++[x])=zX k ds++[Value.int k (x:Int)]:=by simp[zX]
theorem Yz(k:IntKind)(ds:List Nat)(i:Nat)(h:i<ds.length):(zX k ds)[i]?=some (.int k ((dig ds i:Nat):Int)):=by
 unfold zX dig;simp[List.getD_eq_getElem?_getD,List.getElem?_eq_getElem h]
theorem zjm(k:IntKind)(ds:List Nat)(j x:Nat):(zX k ds).set j (.int k (x:Int))=zX k (ds.set j x):=by simp[zX,List.map_set]
theorem zcn(k:IntKind)(n:Nat):(madeCells #[Value.int k 0] n).toList=zX k (List.replicate n 0):=by rw[toList_madeCells_one];simp[zX]
theorem znv{w:World}{base:Nat}{e:TypeId}{v:Value}{n:Nat}{xs:List Value}(h:w.ownsRow base e 1 v n xs):∃a cap,v=.slice a n cap/\n<=cap:=by
 rcases h.2 with ⟨h1,h2⟩|⟨g,cap,cur,h1,_,_,h2,_⟩
 ·exact⟨none,0,by rw[h1,h2],by omega⟩
 ·exact⟨_,cap,h1,h2⟩
theorem zcL{k:IntKind}{w:World}{base g n cap:Nat}{e:TypeId}{ds:List Nat}(h:w.ownsRow base e 1 (.slice (some ⟨g,0,none⟩) n cap) n (zX k ds))(j x:Nat):(w.setCell ⟨g,j,none⟩ (.int k (x:Int))).ownsRow base e 1 (.slice (some ⟨g,0,none⟩) n cap) n (zX k (ds.set j x)):=by
 rw[<-zjm];exact(h.stored j _).1
theorem zdz{w w':World}{base:Nat}{e:TypeId}{size:Nat}{v:Value}{n:Nat}{xs:List Value}(h:w.ownsRow base e size v n xs)(hb:zB w w'):w'.ownsRow base e size v n xs:=by
 obtain⟨h1,h2⟩:=h;refine⟨h1,?_⟩;rcases h2 with h2|⟨g,cap,cur,hv,hg,hh,r⟩
 ·exact Or.inl h2
 ·have hlt:g<w.heap.size:=by
   by_cases hlt:g<w.heap.size
   ·exact hlt
   ·rw[Array.getElem?_eq_none (by omega)] at hh;simp at hh
  exact Or.inr ⟨g,cap,cur,hv,hg,by rw[hb.block g hlt];exact hh,r⟩
theorem Dig.of_owns{k:IntKind}{w:World}{base:Nat}{e:TypeId}{v:Value}{ds:List Nat}(h:w.ownsRow base e 1 v ds.length (zX k ds)):Dig k w v ds:=by
 rcases h.2 with ⟨h1,h2⟩|⟨g,cap,cur,h1,hb,hg,h2,_⟩
 ·obtain rfl:ds=[]:=List.length_eq_zero_iff.1 h2;rw[h1];exact Dig.nil k w
 ·subst h1;refine⟨_,cap,rfl,h2,fun i hi=>⟨g,0,rfl,?_,?_⟩⟩
  ·by_cases hlt:g<w.heap.size
   ·exact hlt
   ·rw[Array.getElem?_eq_none (by omega)] at hg;simp at hg
  ·rw[Nat.zero_add,h.cellAt i (by omega),Yz k ds i hi]
theorem X0{w:World}{b off:Nat}(o:Obj)(h:b<w.heap.size):(w.alloc o).cell? ⟨b,off,none⟩=w.cell? ⟨b,off,none⟩ :=
 ((Below.refl w.heap.size w).alloc zN o).cell (p:=⟨b,off,none⟩) h
theorem Qk(w:World)(A:Value)(t:TypeId):(w.alloc (.cells #[A] t)).cell? ⟨w.heap.size,0,none⟩=some A:=by simp
theorem Xa(w:World)(A:Value)(t:TypeId):(w.alloc (.cells #[A] t)).frozen? ⟨w.heap.size,0,none⟩=false:=by simp
theorem zfm(w:World)(A:Value)(t:TypeId)(o:Obj):((w.alloc (.cells #[A] t)).alloc o).cell? ⟨w.heap.size,0,none⟩=some A:=by
 rw[X0 o (by simp),Qk]
theorem KG(w:World)(A:Value)(t:TypeId)(o:Obj):((w.alloc o).alloc (.cells #[A] t)).cell? ⟨w.heap.size+1,0,none⟩=some A:=by
 have:=Qk (w.alloc o) A t;rwa [World.size_alloc] at this
theorem zak(w:World)(A:Value)(t:TypeId)(o:Obj):((w.alloc o).alloc (.cells #[A] t)).frozen? ⟨w.heap.size+1,0,none⟩=false:=by
 have:=Xa (w.alloc o) A t;rwa [World.size_alloc] at this
theorem zgB(w:World)(A:Value)(t:TypeId)(o p:Obj):(((w.alloc (.cells #[A] t)).alloc o).alloc p).cell? ⟨w.heap.size,0,none⟩=some A:=by
 rw[X0 p (by simp;omega),zfm]
theorem zjW(w:World)(A:Value)(t:TypeId)(o p:Obj):(((w.alloc o).alloc (.cells #[A] t)).alloc p).cell? ⟨w.heap.size+1,0,none⟩=some A:=by
 rw[X0 p (by simp),KG]
theorem zpt(w:World)(A:Value)(t:TypeId)(o p:Obj):(((w.alloc o).alloc p).alloc (.cells #[A] t)).cell? ⟨w.heap.size+1+1,0,none⟩=some A:=by
 have:=KG (w.alloc o) A t p;rwa [World.size_alloc] at this
theorem zh1(w:World)(A:Value)(t:TypeId)(o p:Obj):(((w.alloc o).alloc p).alloc (.cells #[A] t)).frozen? ⟨w.heap.size+1+1,0,none⟩=false:=by
 have:=zak (w.alloc o) A t p;rwa [World.size_alloc] at this
theorem mixed:Tryz.prog.follows .mixedOrders=true:=by kernel_rfl
theorem zaw{x:Int}(h0:0<=x)(h1:x<=18446744073709551615):IntKind.u64.wrap x=x:=IntWalk.u64_in x ⟨h0,h1⟩
theorem zaa(v:Value)(ds:List Nat)(i:Nat)(w:World)(hd:Dig .u64 w v ds)(_hi:i<=1000000)(_hl:ds.length<=1000000) :
  zR 152 #[.agg #[v],.int .i64 i] w (.int .u64 ((dig ds i:Nat):Int)):=by
 obtain⟨a,cap,rfl,hc,hcell⟩:=hd
 by_cases hlt:i<ds.length
 ·obtain⟨b,off,rfl,hb,hcl⟩:=hcell i hlt;have hne:¬b=w.heap.size:=by omega
  clear hcell;generalize dig ds i=d at *;go_enter Tryz.func152,Tryz.ntmps152;go_wp2;go_ret;exact⟨rfl,zF.alloc zN _⟩
 ·have hz:=zaK ds i (by omega);rw[hz];clear hcell hz;go_enter Tryz.func152,Tryz.ntmps152;go_wp2;go_ret;exact⟨rfl,zF.alloc zN _⟩
end Bd
namespace Bd
open Go.RowKit Go.Maps
structure NV where
 a:Option Addr
 n:Nat
 c:Nat
def NV.val(x:NV):Value:=.agg #[.slice x.a x.n x.c]
def NV.dat(x:NV):DataW Unit :=
 match x.a with
 |none=>.agg [.lit (.int .i64 x.n),.lit (.int .i64 x.c)]
 |some ⟨b,o,none⟩=>.agg [.lit (.int .i64 x.n),.lit (.int .i64 x.c),.lit (.int .i64 b),.lit (.int .i64 o)]
 |some ⟨b,o,some s⟩=>.agg [.lit (.int .i64 x.n),.lit (.int .i64 x.c),.lit (.int .i64 b),.lit (.int .i64 o),.lit (.int .i64 s)]
theorem NV.dat_inj{x y:NV}(h:x.dat=y.dat):x=y:=by
 obtain⟨a,n,c⟩:=x;obtain⟨b,m,d⟩:=y;rcases a with _|⟨ab,ao,_|sa⟩<;>rcases b with _|⟨bb,bo,_|sb⟩<;>simp[NV.dat] at h ⊢<;>omega
def Yn(v:Value):Option (DataW Unit × List MemPlace) :=
 match v with
 |.agg cs =>
  match cs.toList with
  |[.slice a n c]=>some (NV.dat ⟨a,n,c⟩,[])
  |_=>none
 |_=>none
theorem zbo(x:NV):Yn x.val=some (x.dat,[]):=rfl
theorem zbN{v:Value}{x:NV}{ps:List MemPlace}(h:Yn v=some (x.dat,ps)):v=x.val:=by
 unfold Yn at h;split at h
 ·rename_i cs;split at h
  ·rename_i a n c e;simp only[Option.some.injEq,Prod.mk.injEq] at h;rw[<-NV.dat_inj h.1];have:cs=#[.slice a n c]:=by cases cs;simp at e;rw[e]
   rw[this];rfl
  ·cases h
 ·cases h
theorem zeN(w:World):(zeroValue 49).run Tryz.prog w=.ok (.agg #[.slice none 0 0]) w:=by kernel_rfl
def Y4(D:DataW Unit)(L:List (Int × NV)):Prop:=Rep I64 (fun x=>Lit.int .i64 x) NV.dat D L
section
variable {w:World} {bm n:Nat} {D:DataW Unit} {L:List (Int × NV)}
theorem zit(hD:w.ownsMap Tryz.prog 3 Yn bm n D)(hR:Y4 D L){p:Int × NV}(hp:p∈L) :
  (Instr.lookup 87 (.map (some bm)) (.int .i64 p.1) true).run Tryz.prog w=.ok (.tuple #[p.2.val,.bool true]) w:=by
 obtain⟨v,ps,hrun,hv⟩:=hD.look_ok QK Tryz.underlying87 (zeN w) (zbo ⟨none,0,0⟩) (Yb (Rep.oks hR p hp));rw[Rep.at' hR p hp] at hv;rw[(Rep.has hR p.1 (Rep.oks hR p hp)).2 (List.mem_map_of_mem hp),zbN hv] at hrun;exact hrun
theorem zmZ(hD:w.ownsMap Tryz.prog 3 Yn bm n D)(hR:Y4 D L){a:Int}(ha:I64 a)(hn:a∉L.map Prod.fst) :
  (Instr.lookup 87 (.map (some bm)) (.int .i64 a) true).run Tryz.prog w=.ok (.tuple #[.agg #[.slice none 0 0],.bool false]) w:=by
 obtain⟨v,ps,hrun,hv⟩:=hD.look_ok QK Tryz.underlying87 (zeN w) (zbo ⟨none,0,0⟩) (Yb ha);have hh:=Rep.not hR ha hn;rw[atKey_of_not_has hh] at hv;rw[hh,zbN hv] at hrun;exact hrun
end
end Bd
namespace Bd
open Go.RowKit Go.Maps
def Qh(f:Nat->Bool):Nat->Nat
 |0=>0
 |n+1=>Qh f n+(if f n then 2^n else 0)
theorem zca(f:Nat->Bool):∀n,Qh f n<2^n
 |0=>by simp[Qh]
 |n+1=>by
  have:=zca f n;unfold Qh;rw[Nat.pow_succ];split<;>omega
theorem JS(f:Nat->Bool):∀n i,i<n->xQ (Qh f n) i=f i
 |n+1,i,h=>by
  have hl:=zca f n;unfold Qh xQ
  by_cases e:i=n
  ·subst e;cases hf:f i with
   |true =>rw[if_pos rfl,Nat.add_comm,Nat.testBit_two_pow_add_eq,Nat.testBit_lt_two_pow hl];rfl
   |false =>rw[if_neg (by simp),Nat.add_zero,Nat.testBit_lt_two_pow hl]
  ·have hi:i<n:=by omega
   have ih:=JS f n i hi;unfold xQ at ih;cases hf:f n with
   |true =>rw[if_pos rfl,Nat.add_comm,Nat.testBit_two_pow_add_gt hi,ih]
   |false =>rw[if_neg (by simp),Nat.add_zero,ih]
end Bd
namespace Bd
open Go.RowKit Go.Maps
def qw:Nat->Nat->Fn'->(Nat->Bool)->Nat
 |0,_,g,f=>if g f then 1 else 0
 |k+1,v,g,f=>qw k (v+1) g (turn f v false)+qw k (v+1) g (turn f v true)
theorem xK(f:Nat->Bool)(v:Nat)(b:Bool):turn f v b v=b:=by unfold turn;rw[if_pos rfl]
theorem ye(f:Nat->Bool){v i:Nat}(b:Bool)(h:i≠v):turn f v b i=f i:=by unfold turn;rw[if_neg h]
theorem Jj:∀(k v:Nat) {g g':Fn'} (f:Nat->Bool),(∀f',(∀i,i<v->f' i=f i)->g f'=g' f')->qw k v g f=qw k v g' f
 |0,v,g,g',f,h=>by unfold qw;rw[h f (fun _ _=>rfl)]
 |k+1,v,g,g',f,h=>by
  unfold qw;rw [Jj k (v + 1) (turn f v false) (fun f' hf=>h f' (fun i hi=>by rw [hf i (by omega),ye f false (by omega)])),
   Jj k (v + 1) (turn f v true) (fun f' hf=>h f' (fun i hi=>by rw [hf i (by omega),ye f true (by omega)]))]
theorem X1:∀(k v:Nat) {g:Fn'},(∀f f':Nat->Bool,(∀i,v<=i->f i=f' i)->g f=g f')->∀f f':Nat->Bool,(∀i,v+k<=i->f i=f' i)->qw k v g f=qw k v g f'
 |0,v,g,hg,f,f',h=>by unfold qw;rw[hg f f' (fun i hi=>h i (by omega))]
 |k+1,v,g,hg,f,f',h=>by
  have key:∀(k v u:Nat) (g:Fn') (f f':Nat->Bool),u<=v->(∀f f':Nat->Bool,(∀i,u<=i->f i=f' i)->g f=g f')->(∀i,u<=i->(i<v\/v+k<=i)->f i=f' i)->qw k v g f=qw k v g f':=by
   intro k
   induction k with
   |zero=>intro v u g f f' _ hg h;unfold qw;rw[hg f f' (fun i hi=>h i hi (by omega))]
   |succ k ih =>
    intro v u g f f' huv hg h;unfold qw;have e:∀ b,qw k (v + 1) g (turn f v b)=qw k (v + 1) g (turn f' v b):=fun b=>ih (v + 1) u g _ _ (by omega) hg (fun i hi hc=>by
     by_cases hiv:i=v
     ·subst hiv;rw[xK,xK]
     ·rw [ye f b hiv,ye f' b hiv];exact h i hi (by omega))
    rw[e false,e true]
  exact key (k+1) v v g f f' zN hg (fun i _ hc=>h i (by omega))
theorem za3(p:Fn'):∀(k v:Nat) (f:Nat->Bool),qw k v p f+qw k v (fun f=>!(p f)) f=2^k
 |0,v,f=>by unfold qw;by_cases hp:p f=true<;>simp[hp]
 |k+1,v,f=>by
  unfold qw;have h1:=za3 p k (v+1) (turn f v false);have h2:=za3 p k (v+1) (turn f v true);rw[Nat.pow_succ];omega
theorem zdM(p:Fn')(k v:Nat)(f:Nat->Bool):qw k v p f<=2^k:=by have:=za3 p k v f;omega
def yn(vars:Nat)(ns:List Nd)(h:Int)(v:Nat):Nat:=qw (vars-v) v (sem ns h) (fun _=>false)
def zV(vars:Nat)(ns:List Nd)(h:Int):Nat:=min (zb ns h).toNat vars
def yw(vars:Nat)(ns:List Nd)(h:Int):Nat:=yn vars ns h (zV vars ns h)
section
variable {vars:Nat} {ns:List Nd}
theorem Yy(hg:zu vars ns){h:Int}{v:Nat}(hv:(v:Int)<=zb ns h):∀f f':Nat->Bool,(∀i,v<=i->f i=f' i)->sem ns h f=sem ns h f':=fun f f' hf =>
 Q3 hg.ranked (fun i hi=>hf i (by omega))
theorem zfv(hg:zu vars ns){h:Int}:∀(d v:Nat),v+d=zV vars ns h->yn vars ns h v=yw vars ns h*2^d
 |0,v,e=>by
  have:v=zV vars ns h:=by omega
  subst this;simp[yw]
 |d+1,v,e=>by
  have h0:=(qi hg.ranked h).1;have hvt:((v+1:Nat):Int)<=zb ns h:=by unfold zV at e;omega
  have hvv:v<vars:=by unfold zV at e;omega
  have ih:=zfv hg (h:=h) d (v+1) (by omega);have hs:=Yy hg (h:=h) (v:=v+1) hvt;unfold yn at ih ⊢;rw[show vars-v=(vars-(v+1))+1 by omega];unfold qw;rw [X1 _ (v + 1) hs (turn (fun _=>false) v false) (fun _=>false) (fun i hi=>ye _ _ (by omega)),
   X1 _ (v + 1) hs (turn (fun _=>false) v true) (fun _=>false) (fun i hi=>ye _ _ (by omega)),ih,Nat.pow_succ]
  rw[<-Nat.mul_assoc];omega
theorem zps{h:Int}(hh:zj ns h=true)(ht:zb ns h=24)(hv:vars<=24):yw vars ns h=h.toNat:=by
 have e:zV vars ns h=vars:=by unfold zV;rw[ht];simp;omega
 unfold yw yn;rw[e,Nat.sub_self];unfold qw;rcases QY hh ht with rfl|rfl
 ·rw[Zh];rfl
 ·rw[Zj];rfl
theorem zpF(hg:zu vars ns){h:Int}(ht:zb ns h≠24):yw vars ns h=yn vars ns (nd ns (pl h)).l ((zb ns h).toNat+1)+yn vars ns (nd ns (pl h)).h ((zb ns h).toNat+1):=by
 have hv:=YN hg ht;have h0:=(qi hg.ranked h).1;obtain⟨k1,-,k2,-⟩:=xN hg.ranked ht;obtain⟨v,e⟩:∃v:Nat,zb ns h=(v:Int):=⟨(zb ns h).toNat,by omega⟩;have et:zV vars ns h=v:=by unfold zV;rw[e];simp;omega
 have en:=Yu hg.ranked ht;unfold yw;rw[et];rw[e] at hv k1 k2 en ⊢;rw[Int.toNat_natCast] at en ⊢;unfold yn;rw[show vars-v=(vars-(v+1))+1 by omega];rw[qw];have hl:=Yy hg (h:=(nd ns (pl h)).l) (v:=v+1) (by omega);have hh:=Yy hg (h:=(nd ns (pl h)).h) (v:=v+1) (by omega);have e1:qw (vars-(v+1)) (v+1) (sem ns h) (turn (fun _=>false) v false)=qw (vars-(v+1)) (v+1) (sem ns (nd ns (pl h)).l) (turn (fun _=>false) v false) :=
  Jj _ _ _ (fun f' hf=>by
   have:f' v=false:=by rw[hf v (by omega),xK]
   rw [en f',this];rfl)
 have e2:qw (vars-(v+1)) (v+1) (sem ns h) (turn (fun _=>false) v true)=qw (vars-(v+1)) (v+1) (sem ns (nd ns (pl h)).h) (turn (fun _=>false) v true) :=
  Jj _ _ _ (fun f' hf=>by
   have:f' v=true:=by rw[hf v (by omega),xK]
   rw [en f',this];rfl)
 rw [e1,e2,X1 _ (v + 1) hl (turn (fun _=>false) v false) (fun _=>false) (fun i hi=>ye _ _ (by omega)),
  X1 _ (v + 1) hh (turn (fun _=>false) v true) (fun _=>false) (fun i hi=>ye _ _ (by omega))]
theorem zht{g:Fn'}{h:Int}(hs:∀f,sem ns h f=g f):yn vars ns h 0=qw vars 0 g (fun _=>false):=by
 unfold yn;rw[Nat.sub_zero,show sem ns h=g from funext hs]
end
end Bd
namespace Bd
open Go.RowKit Num Go.Sort
theorem Dig.take{k:IntKind}{w:World}{a:Option Addr}{cap n:Nat}{ds:List Nat}(h:Dig k w (.slice a ds.length cap) ds)(hn:n<=ds.length):Dig k w (.slice a n cap) (ds.take n):=by
 obtain⟨a',cap',hv,hc,hi⟩:=h;cases hv;have hl:(ds.take n).length=n:=by rw[List.length_take,Nat.min_eq_left hn]
 refine⟨a,cap,by rw[hl],by omega,fun i hlt=>?_⟩;rw[hl] at hlt;obtain⟨b,off,ha,hb,hcell⟩:=hi i (by omega);exact⟨b,off,ha,hb,by rw[Kh,if_pos hlt];exact hcell⟩
theorem Dig.setCell{k:IntKind}{w:World}{v:Value}{ds:List Nat}{B:Nat}(h:Dig k w v ds)(hb:w.heap.size<=B){W:World}(hW:zB w W)(u:Value):Dig k (W.setCell ⟨B,0,none⟩ u) v ds :=
 h.below (hW.setCell hb u)
theorem ze4(v:Value)(ds:List Nat)(w:World)(hd:Dig .u64 w v ds)(sm:∀i,dig ds i<1000000000)(hl:ds.length<=100000) :
  zC 153 #[v] w fun e w'=>∃v',e=.returned (.agg #[v'])/\∃ds',Dig .u64 w' v' ds'/\xP 1000000000 ds'/\val 1000000000 ds'=val 1000000000 ds/\ds'.length<=ds.length/\zB w w':=by
 obtain⟨a,cap,hv,hc,hcell⟩:=id hd;subst hv;have HC:Hid (∀i,i<ds.length->∃b off,a=some ⟨b,off,none⟩/\b<w.heap.size/\w.cell? ⟨b,off+i,none⟩=some (.int .u64 ((dig ds i:Nat):Int))):=hcell;clear hcell;go_enter Tryz.func153,Tryz.ntmps153;go_wp2_with fail;go_loop [3] (fun n=>∃k:Nat,k<=ds.length/\n=.int .i64 k/\∀i,k<=i->dig ds i=0) (fun n=>(intOf n).toNat)
 case atStart=>exact⟨ds.length,Nat.le_refl _,rfl,fun i hi=>zaK ds i hi⟩
 case round =>
  obtain⟨k,hk,rfl,hz⟩:=hrel;have HZ:Hid (∀i,k<=i->dig ds i=0):=hz;clear hz
  by_cases h0:k=0
  ·subst h0;have hx:=zfS (B:=1000000000) (k:=0) (by omega) sm (Nat.zero_le _) (fun h=>absurd rfl h);have hval:=zfK (B:=1000000000) (k:=0) (Nat.zero_le _) HZ.out;have hnil:ds.take 0=[]:=rfl;rw[hnil] at hx hval;go_wp2;refine bodyPost_ret (v:=.agg #[.slice none 0 0]) (by simp[results,Tryz.results153,go_sem]) rfl ?_;exact⟨_,rfl,[],Dig.nil _ _,hx,hval,Nat.zero_le _,zF.alloc zN _⟩
  ·obtain⟨j,rfl⟩:∃j,k=j+1:=⟨k-1,by omega⟩;obtain⟨b,off,ha,hb,hcl⟩:=HC.out j (by omega);subst ha;have hne:¬b=w.heap.size:=by omega
   have hj:=sm j
   by_cases hzj:dig ds j=0
   ·rw[hzj] at hcl;go_wp2;go_round
    case rel =>
     refine⟨j,by omega,by go_num,fun i hi=>?_⟩
     by_cases e:i=j
     ·rw[e];exact hzj
     ·exact HZ.out i (by omega)
    case measure=>simp[intOf]
   ·have hbq:(((dig ds j:Nat):Int)==0)=false:=by rw[beq_eq_false_iff_ne];omega
    have hx:=zfS (B:=1000000000) (k:=j+1) (by omega) sm hk (fun _=>hzj);have hval:=zfK (B:=1000000000) hk HZ.out;have hDt:=Dig.take hd hk;clear hzj;go_wp2;refine bodyPost_ret (v:=.agg #[.slice (some ⟨b,off,none⟩) (j+1) cap]) (by simp[results,Tryz.results153,go_sem]) rfl ?_;exact⟨_,rfl,ds.take (j+1),hDt.below (zF.alloc zN _),hx,hval,by rw[List.length_take];omega,zF.alloc zN _⟩
end Bd
namespace Bd
open Go.RowKit Num Go.Sort
theorem Ke:(Tryz.prog.info? 200).map (fun i=>(i.zero,i.size,i.bytes))=some (some (.int .u64 0),1,8):=by kernel_rfl
theorem zhA(n:Int)(w:World)(h0:-9223372036854775808<=n)(h1:n<=9223372036854775807) :
  zC 104 #[.int .i64 n] w fun e w'=>∃v,e=.returned (.agg #[v])/\∃ds,Dig .u64 w' v ds/\xP 1000000000 ds/\val 1000000000 ds=n.toNat/\zB w w':=by
 obtain⟨i0,hi,hz0,hz1,hz2⟩:=info_parts Ke;go_enter Tryz.func104,Tryz.ntmps104;go_wp2_with fail;go_loopw [0,3] (fun i v wr=>∃(ds:List Nat) (m:Int) (a:Option Addr) (cap:Nat),i=.int .i64 m/\v=.slice a ds.length cap/\-9223372036854775808<=m/\m<=9223372036854775807/\(∀i,dig ds i<1000000000)/\(m<=0->ds.length≠0->dig ds (ds.length-1)≠0)/\val 1000000000 ds+m.toNat*1000000000^ds.length=n.toNat/\wr.ownsRow (w.heap.size+1) 200 1 (.slice a ds.length cap) ds.length (zX .u64 ds)/\Below (w.heap.size+1) (w.alloc (.cells #[.slice none 0 0] 49)) wr)
   (fun i _ _=>(intOf i).toNat)
 case atStart=>exact⟨[],n,none,0,rfl,rfl,h0,h1,fun i=>by rw[zjG];omega,fun _ h=>absurd rfl h,by simp[zeK],World.ownsRow_nil _ _ _ _,Below.refl _ _⟩
 case round =>
  obtain⟨ds,m,a,cap,rfl,rfl,hm0,hm1,hsm,hlast,hval,hown,hbel⟩:=hrel;have HV:=hval
  by_cases hpos:0<m
  ·obtain⟨m,rfl⟩:=Int.eq_ofNat_of_zero_le (show 0<=m by omega);rw[Int.toNat_natCast] at hval;have hlen:=zhg (by omega) (by omega) hval;have hsz:=hbel.size;simp only[World.size_alloc] at hsz;go_wp2_with (at_builtin;refine wpList_append_own _ rfl _ _ 47 rfl (w.heap.size+1) 200 i0 (.int .u64 0) 1 8 Tryz.underlying47 hi hz0 hz1 hz2 rfl (by decide) _ _ _ rfl (hown.alloc _) ⟨wr.heap.size,0,none⟩ 1 1 [.int .u64 ((m:Int)%1000000000)] rfl rfl ?c1 ?c2 ?c3 ?c4 ?c5 ?_)
   case c1=>exact cell_one_new _ _ _
   case c2=>intro u hu;simp at hu;subst hu;rfl
   case c3=>unfold maxLen;omega
   case c4=>omega
   case c5=>simp;omega
   ·intro v' w1 hown' hgrow _;have hbel':Below (w.heap.size+1) (w.alloc (.cells #[.slice none 0 0] 49)) w1:=(hbel.alloc (by omega) _).grown hgrow (by simp;omega) (fun k hk=>(hown.lt k hk).1);obtain⟨a',cap',hv,-⟩:=znv hown';clear hown hgrow hbel;go_wp2;go_roundw
    case rel =>
     refine⟨ds++[m%1000000000],((m/1000000000:Nat):Int),a',cap',by go_num,by rw[hv];simp,by omega,by omega,zjI hsm (by omega),fun h _=>?_,?_,?_,hbel'⟩
     ·rw[zmP];omega
     ·rw[Int.toNat_natCast];exact zmn hval
     ·rw[hv] at hown';rw[Y2];simpa using hown'
    case measure=>simp[intOf];omega
  ·have hc:wr.cell? ⟨w.heap.size,0,none⟩=some (.slice none 0 0):=(hbel.cell (p:=⟨w.heap.size,0,none⟩) (by simp)).trans (by simp);have hf:wr.frozen? ⟨w.heap.size,0,none⟩=false:=(hbel.frozen (p:=⟨w.heap.size,0,none⟩) (by simp)).trans (by simp);have hcs:(wr.setCell ⟨w.heap.size,0,none⟩ (.slice a ds.length cap)).cell? ⟨w.heap.size,0,none⟩=some (.slice a ds.length cap):=World.cell?_setCell_same' _ _ _ (by simp[hc]);go_wp2;refine bodyPost_ret (v:=.agg #[.slice a ds.length cap]) (by simp[results,Tryz.results104,go_sem,hcs]) rfl ?_;refine⟨.slice a ds.length cap,rfl,ds,Dig.of_owns (ownsRow_setCell_below hown (Nat.lt_succ_self _) _),⟨hsm,hlast (by omega)⟩,?_,?_⟩
   ·have:m.toNat=0:=by omega
    rw[this] at hval;simpa using hval
   ·exact((zF.alloc zN _).trans (hbel.mono (by omega))).setCell zN _
end Bd
end Go.Proofs.YtlmmkbnjhilbdaaGreatDoor
