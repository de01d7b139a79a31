/- Of, the walk. -/
import Derived.Test.YtiihalknffbjpaaGreatDoorCtIns
set_option maxHeartbeats 4000000
set_option maxRecDepth 100000
namespace Go.Proofs.YtiihalknffbjpaaGreatDoor
section
open Go.RowKit Go.Deep Sv
def pr0(its:List It)(k j:Nat):List (Int × List Int):=if (its.getD j default).name=(its.getD k default).name then [(-1,[zaA (j:Int),zaA (k:Int)])] else []
def prI(its:List It)(k i:Nat):List (Int × List Int):=(List.range i).flatMap (pr0 its k)
def prF(its:List It)(k:Nat):List (Int × List Int):=(List.range k).flatMap fun k=>prI its k k
theorem zfO(its:List It)(k i:Nat):prI its k (i+1)=prI its k i++pr0 its k i:=by unfold prI;rw[List.range_succ,List.flatMap_append];simp
theorem zfU(its:List It)(k:Nat):prF its (k+1)=prF its k++prI its k k:=by unfold prF;rw[List.range_succ,List.flatMap_append];simp
noncomputable def lnL(its:List It)(ls:List Ln)(n:Nat):List (Int × List Int):=(List.range n).flatMap fun n=>zcg its n (ls.getD n default)
theorem zgc(its:List It)(ls:List Ln)(n:Nat):lnL its ls (n+1)=lnL its ls n++zcg its n (ls.getD n default):=by unfold lnL;rw[List.range_succ,List.flatMap_append];simp
noncomputable def ofL(its:List It)(ls:List Ln):List (Int × List Int):=prF its its.length++lnL its ls ls.length
theorem zqQ(its:List It)(k j:Nat):(pr0 its k j).length<=1:=by unfold pr0;split<;>simp
theorem zfX(its:List It)(k:Nat):∀i,(prI its k i).length<=i
 |0=>by simp[prI]
 |i+1=>by rw[zfO,List.length_append];have:=zfX its k i;have:=zqQ its k i;omega
theorem zgf(its:List It):∀k,k<=24->(prF its k).length<=k*24
 |0,_=>by simp[prF]
 |k+1,h=>by rw[zfU,List.length_append];have:=zgf its k (by omega);have:=zfX its k k;omega
theorem zbI(its:List It)(name:ByteArray)(rng:List Span):(zaK its name rng).length<=its.length:=by
 unfold zaK;refine Nat.le_trans (List.length_filter_le _ _) ?_;rw[List.length_range'];have:=zc8 its name;omega
theorem zcp(its:List It)(name:ByteArray)(rng:List Span):∀x∈zaK its name rng,x<its.length:=by
 intro x hx;unfold zaK at hx;have h:=(List.mem_range'_1.1 (List.mem_filter.1 hx).1);have:=zc8 its name;omega
theorem zkp(its:List It)(n:Nat)(x:Ln)(h:its.length<=24):(zcg its n x).length<=24:=by
 have:=zbI its x.other x.rng;unfold zcg;split
 ·simp
 ·split
  ·simp
  ·split
   ·simp;omega
   ·simp
theorem zh8(its:List It)(ls:List Ln)(h:its.length<=24):∀n,(lnL its ls n).length<=n*24
 |0=>by simp[lnL]
 |n+1=>by rw[zgc,List.length_append];have:=zh8 its ls h n;have:=zkp its n (ls.getD n default) h;omega
structure OS(w W:World)(b5:Nat)(n:Int)(cv fv:Value)(P:List (Int × List Int))(iv:Value)(its:List It):Prop where
 r2:Blk W w.heap.size 65 #[.int .i64 0,.slice none 0 0,.slice none 0 0]
 r5:Blk W b5 65 #[.int .i64 n,cv,fv]
 rs:RS (b5+1) W cv fv (P.map Prod.snd) (P.map Prod.fst)
 B:zB w W
 lo:w.heap.size<b5
 its:W.ownsRow w.heap.size 114 4 iv its.length (zae its)
section
variable {w W W':World} {b5:Nat} {n:Int} {cv fv iv:Value} {P:List (Int × List Int)} {its:List It}
theorem OS.new(h:OS w W b5 n cv fv P iv its)(hb:zB W W'):OS w W' b5 n cv fv P iv its :=
 ⟨h.r2.below hb h.r2.lt,h.r5.below hb h.r5.lt,h.rs.new hb,zT h.B hb,h.lo,zad h.its hb⟩
theorem OS.keep(h:OS w W b5 n cv fv P iv its)(hf:Fr b5 cv fv W W'){k:Nat}{cs:Array Value}{t:TypeId}(hk:Blk W k t cs)(h1:t≠65)(h2:t≠81)(h3:t≠3):Blk W' k t cs:=by
 obtain⟨cs',hc,-⟩:=h.rs.crow;refine(hf.block k hk.lt (hk.ne_type h.r5 h1) (fun e=>zah hc hk h2 e.symm) (fun e=>zah h.rs.frow hk h3 e.symm)).trans hk
theorem OS.keepRow(h:OS w W b5 n cv fv P iv its)(hf:Fr b5 cv fv W W'){B t k m:Nat}{v:Value}{cs:List Value}(hr:W.ownsRow B t k v m cs)(h1:t≠65)(h2:t≠81)(h3:t≠3):W'.ownsRow B t k v m cs:=by
 refine⟨hr.1,?_⟩;rcases hr.2 with h'|⟨g,cap,cur,e,hB,hg,r⟩
 ·exact .inl h'
 ·exact .inr ⟨g,cap,cur,e,hB,h.keep hf hg h1 h2 h3,r⟩
theorem OS.add(h:OS w W b5 n cv fv P iv its){cv' fv':Value}{f:Int}{c:List Int}(hf:Fr b5 cv fv W W')(h5:Blk W' b5 65 #[.int .i64 n,cv',fv'])(hr:RS (b5+1) W' cv' fv' (P.map Prod.snd++[c]) (P.map Prod.fst++[f])):OS w W' b5 n cv' fv' (P++[(f,c)]) iv its :=
 ⟨h.r2.below hf.B (by have:=h.lo;omega),h5,by simpa using hr,h.B.trans (hf.B.mono (Nat.le_of_lt h.lo)),h.lo,h.keepRow hf h.its (by decide) (by decide) (by decide)⟩
theorem OS.keepInts(h:OS w W b5 n cv fv P iv its)(hf:Fr b5 cv fv W W'){B m:Nat}{v:Value}{cs:List Value}(hr:W.ownsRow B 3 1 v m cs)(hn:∀g,v.ownBlock=some g->some g≠fv.ownBlock):W'.ownsRow B 3 1 v m cs:=by
 obtain⟨cs',hc,-⟩:=h.rs.crow;refine⟨hr.1,?_⟩;rcases hr.2 with h'|⟨g,cap,cur,e,hB,hg,r⟩
 ·exact .inl h'
 ·have hk:Blk W g 3 cur:=hg;exact .inr ⟨g,cap,cur,e,hB,(hf.block g hk.lt (hk.ne_type h.r5 (by decide)) (fun e=>zah hc hk (by decide) e.symm) (hn g (by rw[e];rfl))).trans hg,r⟩
theorem OS.fresh(h:OS w W b5 n cv fv P iv its){g:Nat}(hg:W.heap.size<=g):some g≠fv.ownBlock:=fun e=>by
 have:=(h.rs.frow.lt g e.symm).2;omega
end
theorem zcl{B:Nat}{w:World}{v:Value}{l:List Int}(h:w.ownsRow B 3 1 v l.length (zaf l)):∃a cap,v=.slice a l.length cap/\l.length<=cap/\cap<=9223372036854775807/\zbb 0 w a l/\PlA a:=by
 rcases h.2 with ⟨e,e0⟩|⟨g,cap,cur,e,hB,hg,hn,hm,hsz,htake⟩
 ·exact⟨none,0,by rw[e,e0],by omega,by omega,fun i hi=>by omega,fun ad e=>by cases e⟩
 ·unfold maxLen at hm;refine⟨_,_,e,hn,hm,fun i hi=>⟨_,rfl,(show Blk w g 3 cur from hg).lt,Or.inr ⟨_,_,hg⟩,?_⟩,fun ad e=>by cases e;rfl⟩;subst e;have:=h.cellAt i (by omega);rw[zau,Nat.zero_add,this,zbj l i hi]
theorem zcM(its:List It)(x:It)(h:its.length<=24):-1<=zaP its x/\zaP its x<=24:=by
 unfold zaP;split
 ·rename_i i hi;have:=(List.findIdx?_eq_some_iff_findIdx_eq.1 hi).1;omega
 ·omega
theorem zqk(bk bm:Nat)(lv iv:Value)(ls:List Ln)(vs:List Value)(w:World)(h1:Blk w bk 228 #[lv,iv,.map (some bm)])(hr:zbC w ls vs)(h2:zb3 w lv ls.length (zav ls vs))(hl:ls.length<=100000) :
  zC 54 #[.pointer (some ⟨bk,0,none⟩)] w fun e w'=>∃v',e=.returned v'/\w'.ownsRow w.heap.size 130 7 v' ls.length (zav ls vs)/\zB w w':=by
 have HI:=zH (zeT ls vs hr.1 hr.one lv w h2 hl);obtain⟨va,vc,rfl,-⟩:=h2.form;have c0:_=some (Value.slice va ls.length vc):=h1.cell 0;clear h1 h2 hr hl;go_enter Tryz.func54,Tryz.ntmps54;go_wp2_with fail;refine HI.out.mono ?_;rintro e w1 ⟨v',rfl,hrow,hb1⟩;have HR:=zH hrow;have HB1:=zH hb1;clear hb1 HI hrow c0;go_wp2;go_ret;exact⟨v',rfl,HR.out,HB1.out⟩
end
section
open Go.RowKit Go.Deep Sv
section
variable {w W:World} {b5:Nat} {n:Int} {cv fv iv:Value} {P:List (Int × List Int)} {its:List It}
def zsu(w W:World)(b5:Nat)(n:Int)(cv fv:Value)(P:List (Int × List Int))(iv:Value)(its:List It)(f:Int)(c:List Int)(e:Ending)(w':World):Prop :=
 e=.returned (.tuple #[])/\∃cv' fv',OS w w' b5 n cv' fv' (P++[(f,c)]) iv its/\Fr b5 cv fv W w'/\Loc W cv cv'/\Loc W fv fv'
theorem zr2(h:OS w W b5 n cv fv P iv its)(hP:P.length<=90000)(f:Int)(a:Option Addr)(c:List Int)(cap:Nat)(hc1:c.length<=cap)(hc2:cap<=9223372036854775807)(hi:zbb 0 W a c)(hN:0<c.length->∀g,(Value.slice a c.length cap).ownBlock=some g->some g≠fv.ownBlock)(hpa:PlA a) :
  zC 150 #[.int .i64 f,.slice a c.length cap,.pointer (some ⟨b5,0,none⟩)] W (zsu w W b5 n cv fv P iv its f c) :=
 (zr3 b5 n W cv fv _ _ f a c cap h.r5 h.rs hc1 hc2 hi hN hpa (by simp;omega) (by simp;omega)).mono fun _ _ ⟨he,cv',fv',h1,h2,h3,h4,h5⟩=>⟨he,cv',fv',h.add h3 h1 h2,h3,h4,h5⟩
theorem zrq(h:OS w W b5 n cv fv P iv its)(hP:P.length<=90000)(f x y:Int) :
  zC 150 #[.int .i64 f,.slice (some ⟨W.heap.size,0,none⟩) 2 2,.pointer (some ⟨b5,0,none⟩)] (W.alloc (.cells #[.int .i64 x,.int .i64 y] 3)) (zsu w (W.alloc (.cells #[.int .i64 x,.int .i64 y] 3)) b5 n cv fv P iv its f [x,y]):=by
 have hbn:=zac W (.cells #[.int .i64 x,.int .i64 y] 3);have hB:=Blk.new W 3 #[.int .i64 x,.int .i64 y];refine zr2 (h.new hbn) hP f (some ⟨W.heap.size,0,none⟩) [x,y] 2 zN (by omega) (fun i hi=>⟨_,rfl,hB.lt,Or.inr ⟨_,_,hB⟩,?_⟩) (fun _ g hg e=>?_) (fun ad e=>by cases e;rfl)
 ·rw[zau,Nat.zero_add,hB.cell i]
  match i,hi with
  |0,_=>rfl
  |1,_=>rfl
 ·simp[Value.ownBlock] at hg;have:=(h.rs.frow.lt g e.symm).2;omega
end
theorem RS.set{B b i:Nat}{W:World}{cv fv v:Value}{K:List (List Int)}{F:List Int}{cs:Array Value}(h:RS B W cv fv K F)(hb:Blk W b 65 cs)(hlt:b<B):RS B (W.setCell ⟨b,i,none⟩ v) cv fv K F:=by
 obtain⟨c,h1,h2,h3⟩:=h.crow;exact⟨⟨c,zar h1 hlt,h2.kp (Kp.set (Nat.zero_le _) hb (by decide)),h3⟩,zar h.frow hlt⟩
theorem RS.base{B B':Nat}{W:World}{cv fv:Value}{K:List (List Int)}{F:List Int}(h:RS B W cv fv K F)(hlt:B'<=B):RS B' W cv fv K F:=by
 obtain⟨c,h1,h2,h3⟩:=h.crow;exact⟨⟨c,zal h1 hlt,h2,h3⟩,zal h.frow hlt⟩
def zsk(w:World)(n:Int)(P:List (Int × List Int))(e:Ending)(w':World):Prop :=
 (200<P.length/\e=.returned (.tuple #[.agg #[.int .i64 0,.slice none 0 0,.slice none 0 0],.iface 57 (.int .i64 4)])/\zB w w') \/
 (P.length<=200/\∃cv fv,e=.returned (.tuple #[.agg #[.int .i64 n,cv,fv],.nilIface])/\RS w.heap.size w' cv fv (P.map Prod.snd) (P.map Prod.fst)/\zB w w')
theorem zdp{its:List It}(hl:its.length<=24)(nm:ByteArray)(rng:List Span):(zaK its nm rng).length<=24/\∀x∈zaK its nm rng,x<=24 :=
 ⟨Nat.le_trans (zbI _ _ _) hl,fun x hx=>by have:=zcp its nm rng x hx;omega⟩
theorem zcq(l:List Nat):(zbl l).length=l.length:=by simp[zbl]
theorem zsI(bk:Nat)(ls:List Ln)(its:List It)(w:World)(h:zdv w bk ls its)(hl:its.length<=24)(hll:ls.length<=120)(hnm:∀x∈ls,x.name.size<=100000/\x.other.size<=100000) :
  zC 73 #[.pointer (some ⟨bk,0,none⟩)] w (zsk w (its.length:Int) (ofL its ls)):=by
 have HFIN:Hid (ofL its ls=prF its its.length++lnL its ls ls.length):=rfl;generalize ofL its ls=PF at *;have HC:=zH h;have hbx:zB w (w.alloc (.cells #[.int .i64 0,.slice none 0 0,.slice none 0 0] 65)):=(Below.refl _ w).alloc zN _;have k2:=Blk.new w 65 #[.int .i64 0,.slice none 0 0,.slice none 0 0];have HIT:=zH (zp0 bk ls its _ (h.below hbx zN) (by omega));clear h;go_enter Tryz.func73,Tryz.ntmps73;go_upto_region 1 with fail;generalize w.alloc (.cells #[.int .i64 0,.slice none 0 0,.slice none 0 0] 65)=W0 at *;go_wp2_with fail;refine HIT.out.mono ?_;rintro e w1 ⟨iv,rfl,hrow,hb1⟩;have hs0:=hbx.size;have hs1:=hb1.size;have h2lt:=k2.lt;have hos:OS w (w1.alloc (.cells #[.int .i64 its.length,.slice none 0 0,.slice none 0 0] 65)) w1.heap.size (its.length:Int) (.slice none 0 0) (.slice none 0 0) (prF its 0) iv its :=
  ⟨((k2.below hb1 h2lt).alloc _),Blk.new _ _ _,RS.nil _ _,(hbx.trans (hb1.mono hs0)).alloc (by omega) _,by omega,zal (zad hrow (zac _ _)) hs0⟩
 have HOS:=zH hos;obtain⟨ia,ic,rfl,-⟩:=(zaa hrow).form;clear hos hrow hb1 HIT hbx k2 h2lt hs0;go_upto_region 4 with fail;generalize w1.alloc (.cells #[.int .i64 its.length,.slice none 0 0,.slice none 0 0] 65)=W1 at *;generalize w1.heap.size=b5 at *;clear hs1;go_wp2_with fail;go_loopw [24] (fun kV wr=>∃(k:Nat) (cv fv:Value),k<=its.length/\kV=.int .i64 k/\OS w wr b5 (its.length:Int) cv fv (prF its k) (.slice ia its.length ic) its) (fun kV _=>its.length-(intOf kV).toNat)
 case atStart=>exact⟨0,_,_,Nat.zero_le _,rfl,HOS.out⟩
 case round =>
  obtain⟨k,cv,fv,hkl,rfl,hos⟩:=hrel
  by_cases hlt:k<its.length
  ·obtain⟨g,cap',e,hg,c0,c1,c2,c3⟩:=(show zbU wr _ its from zaa hos.its).at k hlt;simp at e;obtain⟨rfl,rfl⟩:=e;obtain⟨X,hXe⟩:∃X,its.getD k default=X:=⟨_,rfl⟩;rw[hXe] at c0 c1 c2 c3;have HXE:=zH hXe;clear hXe;have hii0:(0:Int)<=(k:Int):=by omega
   have hii1:(k:Int)<(its.length:Int):=by omega
   have hb2:=zac wr (.cells #[.string X.name,.int .i64 X.a,.int .i64 X.b,.int .i64 X.c] 114);have kx:=Blk.new wr 114 #[.string X.name,.int .i64 X.a,.int .i64 X.b,.int .i64 X.c];have hos1:OS w (wr.alloc (.cells #[.string X.name,.int .i64 X.a,.int .i64 X.b,.int .i64 X.c] 114)) b5 (its.length:Int) cv fv (prF its k++prI its k 0) (.slice (some ⟨g,0,none⟩) its.length ic) its:=by
    rw[show prI its k 0=[] from rfl,List.append_nil];exact hos.new hb2
   have HOS1:=zH hos1;have HX:=zH kx;clear hos hos1 hb2 kx HOS;go_upto_region 7 with fail;generalize wr.alloc (.cells #[.string X.name,.int .i64 X.a,.int .i64 X.b,.int .i64 X.c] 114)=W2 at *;generalize wr.heap.size=bx at *;clear c0 c1 c2 c3 hg;go_wp2_with fail;go_loopw [30] (fun iV wr=>∃(i:Nat) (cv fv:Value),i<=k/\iV=.int .i64 i/\OS w wr b5 (its.length:Int) cv fv (prF its k++prI its k i) (.slice (some ⟨g,0,none⟩) its.length ic) its/\Blk wr bx 114 #[.string X.name,.int .i64 X.a,.int .i64 X.b,.int .i64 X.c]) (fun iV _=>k-(intOf iV).toNat)
   case atStart=>exact⟨0,_,_,Nat.zero_le _,rfl,HOS1.out,HX.out⟩
   case round =>
    clear HOS1 HX W2;obtain⟨i,cv,fv,hik,rfl,hos,hX⟩:=hrel
    by_cases hlt2:i<k
    ·obtain⟨g',cap',e,hg,c0,c1,c2,c3⟩:=(show zbU wr _ its from zaa hos.its).at i (by omega);simp at e;obtain⟨rfl,rfl⟩:=e;have hjj0:(0:Int)<=(i:Int):=by omega
     have hjj1:(i:Int)<(its.length:Int):=by omega
     have hjj2:(i:Int)<(k:Int):=by omega
     have x0:_=some (Value.string X.name):=hX.cell 0;have HSU:=zH (zfO its k i);have HP0:Hid (pr0 its k i=if (its.getD i default).name=X.name then [(-1,[zaA (i:Int),zaA (k:Int)])] else []):=by show _=_;unfold pr0;rw[HXE.out]
     obtain⟨Y,hYe⟩:∃Y,(its.getD i default).name=Y:=⟨_,rfl⟩;rw[hYe] at c0 HP0;have HOS:=zH hos;have HX:=zH hX;have hlen:(prF its k++prI its k i).length<=90000:=by have:=zgf its k (by omega);have:=zfX its k i;rw[List.length_append];omega
     clear hos hX c1 c2 c3 hYe hg;go_upto_region 10 with fail
     by_cases heq:Y=X.name
     ·have HPE:Hid (prF its k++prI its k (i+1)=(prF its k++prI its k i)++[(-1,[zaA (i:Int),zaA (k:Int)])]):=by show _=_;rw[HSU.out,HP0.out,if_pos heq,List.append_assoc]
      clear HP0 HSU;go_big_region;have hbd:zB wr wr.drew:=zF.drew;have HOSD:=zH (HOS.out.new hbd);have HXD:=zH (HX.out.below hbd HX.out.lt);clear hbd HOS HX x0 c0 heq;generalize wr.drew=W3 at *;go_wp2_with fail;refine(zkk (i:Int) (by omega) (by omega) _).mono ?_;rintro e w' ⟨rfl,rfl⟩;go_wp2_with fail;refine(zkk (k:Int) (by omega) (by omega) _).mono ?_;rintro e w' ⟨rfl,rfl⟩;go_wp2_with fail;refine(zrq HOSD.out hlen (-1) (zaA (i:Int)) (zaA (k:Int))).mono ?_;rintro e w4 ⟨rfl,cv',fv',ho,hf,-,-⟩;have HO4:Hid (OS w w4 b5 (its.length:Int) cv' fv' (prF its k++prI its k (i+1)) (.slice (some ⟨g,0,none⟩) its.length ic) its):=by show OS _ _ _ _ _ _ _ _ _;rw[HPE.out];exact ho
      have HX4:=zH ((HOSD.out.new (zac _ _)).keep hf (HXD.out.alloc _) (by decide) (by decide) (by decide));clear ho hf HOSD HXD HPE;go_wp2;go_roundw
      case rel=>exact⟨i+1,cv',fv',by omega,by go_num,HO4.out,HX4.out⟩
      case measure=>simp[intOf];omega
     ·have HPE:Hid (prI its k (i+1)=prI its k i):=by show _=_;rw[HSU.out,HP0.out,if_neg heq,List.append_nil]
      clear HP0 HSU;have hbq:(Y.toList==X.name.toList)=false:=by rw[beq_eq_false_iff_ne];exact fun h=>heq (za7 h)
      go_big_region;have hbd:zB wr wr.drew:=zF.drew;have HO4:Hid (OS w wr.drew b5 (its.length:Int) cv fv (prF its k++prI its k (i+1)) (.slice (some ⟨g,0,none⟩) its.length ic) its):=by show OS _ _ _ _ _ _ _ _ _;rw[HPE.out];exact HOS.out.new hbd
      have HX4:=zH (HX.out.below hbd HX.out.lt);clear hbd HOS HX x0 c0;generalize wr.drew=W3 at *;go_wp2;go_roundw
      case rel=>exact⟨i+1,cv,fv,by omega,by go_num,HO4.out,HX4.out⟩
      case measure=>simp[intOf];omega
    ·obtain rfl:i=k:=by omega
     have HO4:Hid (OS w wr b5 (its.length:Int) cv fv (prF its (i+1)) (.slice (some ⟨g,0,none⟩) its.length ic) its):=by show OS _ _ _ _ _ _ _ _ _;rw[zfU];exact hos
     clear hos hX;go_wp2;go_roundw
     case rel=>exact⟨i+1,cv,fv,by omega,by go_num,HO4.out⟩
     case measure=>simp[intOf];omega
  ·obtain rfl:k=its.length:=by omega
   have HO2:=zH hos;obtain⟨lv,iv0,bm,q1,⟨vs,q2,q2'⟩,-,-⟩:=HC.out;have HLN:=zH (zqk bk bm lv iv0 ls vs wr (q1.below hos.B q1.lt) (q2.below hos.B zN) (q2'.below hos.B zN) (by omega));have HRG:=zH q2;clear hos HOS W1 q1 q2 q2' lv iv0 bm;go_wp2_with fail;refine HLN.out.mono ?_;rintro e w2 ⟨lv,rfl,hlr,hb2⟩;have hos2:=HO2.out.new hb2;have HO3:Hid (OS w w2 b5 (its.length:Int) cv fv (prF its its.length++lnL its ls 0) (.slice ia its.length ic) its):=by show OS _ _ _ _ _ _ _ _ _;rw[show lnL its ls 0=[] from rfl,List.append_nil];exact hos2
   have HLR:=zH (zal hlr HO2.out.B.size);obtain⟨la,lc,rfl,-⟩:=(zaa hlr).form;clear hlr hb2 hos2 HLN HO2;go_wp2_with fail;go_loopw [53] (fun nV wr=>∃(n:Nat) (cv fv:Value),n<=ls.length/\nV=.int .i64 n/\OS w wr b5 (its.length:Int) cv fv (prF its its.length++lnL its ls n) (.slice ia its.length ic) its/\wr.ownsRow w.heap.size 130 7 (.slice la ls.length lc) ls.length (zav ls vs)) (fun nV _=>ls.length-(intOf nV).toNat)
   case atStart=>exact⟨0,_,_,Nat.zero_le _,rfl,HO3.out,HLR.out⟩
   case round =>
    clear HO3 HLR hkl hlt;obtain⟨n,cv,fv,hnl,rfl,hos,hlr⟩:=hrel
    by_cases hlt:n<ls.length
    ·obtain⟨g,cap',rv,e,hg,hsp,hrg,c0,c1,c2,c3,c4,c5,c6⟩:=zdV.at ⟨vs,HRG.out.below hos.B zN,zaa hlr⟩ n hlt;simp at e;obtain⟨rfl,rfl⟩:=e;have hnn:=hnm (ls.getD n default) (by rw[List.getD_eq_getElem?_getD,List.getElem?_eq_getElem hlt];exact List.getElem_mem hlt);have HSU:=zH (zgc its ls n);have hlen:(prF its its.length++lnL its ls n).length<=80000:=by have:=zgf its its.length hl;have:=zh8 its ls hl n;rw[List.length_append];omega
     obtain⟨x,hxe⟩:∃x,ls.getD n default=x:=⟨_,rfl⟩;rw[hxe] at hsp hrg c0 c1 c2 c3 c4 c5 hnn HSU;obtain⟨hn1,hn2⟩:=hnn;obtain⟨ra,rc,rfl⟩:=hsp.form;have hii0:(0:Int)<=(n:Int):=by omega
     have hii1:(n:Int)<(ls.length:Int):=by omega
     have hb2:=zac wr (.cells #[.int .i64 x.kind,.string x.name,.int .i64 x.a,.int .i64 x.b,.int .i64 x.c,.string x.other,.slice ra x.rng.length rc] 130);have kx:=Blk.new wr 130 #[.int .i64 x.kind,.string x.name,.int .i64 x.a,.int .i64 x.b,.int .i64 x.c,.string x.other,.slice ra x.rng.length rc];have HOS1:=zH (hos.new hb2);have HSP:=zH (hsp.below hb2 zN);have HRG1:=zH hrg;have HLR:=zH (zad hlr hb2);clear hxe hsp hrg hos hlr hb2 hnl;go_upto_region 17 with fail;generalize wr.alloc (.cells #[.int .i64 x.kind,.string x.name,.int .i64 x.a,.int .i64 x.b,.int .i64 x.c,.string x.other,.slice ra x.rng.length rc] 130)=W2 at *;generalize wr.heap.size=bx at *;clear c0 c1 c2 c3 c4 c5 c6 hg;have d0:_=some (Value.int .i64 x.kind):=kx.cell 0;have d1:_=some (Value.string x.name):=kx.cell 1;have d2:_=some (Value.int .i64 x.a):=kx.cell 2;have d3:_=some (Value.int .i64 x.b):=kx.cell 3;have d4:_=some (Value.int .i64 x.c):=kx.cell 4;have d5:_=some (Value.string x.other):=kx.cell 5;have d6:_=some (Value.slice ra x.rng.length rc):=kx.cell 6;have HX:=zH kx;have HCAT:=zH (HC.out.below HOS1.out.B zN);have hO1:=HOS1.out.B.size;clear kx
     by_cases hk4:x.kind=4
     ·have HLC:Hid (zcg its n x=[((n:Int),zbl (zaK its x.name x.rng))]):=by show _=_;unfold zcg zbl;rw[if_pos hk4]
      have hab:=zdp hl x.name x.rng;have HAM:=zH (zhK bk ls its x.name x.rng HRG1.out _ W2 HCAT.out (by omega) hn1 HSP.out);generalize zaK its x.name x.rng=am at *;go_wp2_with fail;refine HAM.out.mono ?_;rintro e w3 ⟨av,rfl,har,hb3⟩;have HTH:=zH (zkv am av w3 (by omega) (fun x hx=>by have:=hab.2 x hx;omega) (zaa har));obtain⟨aa,ac,rfl,-⟩:=(zaa har).form;clear HAM d0 d1 d2 d3 d4 d5 d6 har;go_wp2_with fail;refine HTH.out.mono ?_;rintro e w4 ⟨tv,rfl,htr,-,hb4⟩;have hos3:=HOS1.out.new hb3;have hos4:=hos3.new hb4;obtain⟨ta,tc,rfl,t1,t2,t3,t5⟩:=zcl (l:=zbl am) (by rw[zcq];exact htr);have HADD:=zH (zr2 hos4 (Nat.le_trans hlen (by omega)) (n:Int) ta (zbl am) tc t1 t2 t3 (fun _ g hg=>hos3.fresh ((htr.lt g hg).1)) t5);have HO4:=zH hos4;have HLR4:=zH (zad (zad HLR.out hb3) hb4);clear HTH hos3 hos4 htr hb3 hb4 t1 t2 t3;go_wp2_with fail;refine HADD.out.mono ?_;rintro e w5 ⟨rfl,cv',fv',ho,hf,-,-⟩;have HO5:Hid (OS w w5 b5 (its.length:Int) cv' fv' (prF its its.length++lnL its ls (n+1)) (.slice ia its.length ic) its):=by show OS _ _ _ _ _ _ _ _ _;rw[HSU.out,HLC.out,<-List.append_assoc];exact ho
      have HLR5:=zH (HO4.out.keepRow hf HLR4.out (by decide) (by decide) (by decide));clear HADD ho hf HO4 HLR4;go_wp2;go_roundw
      case rel=>exact⟨n+1,cv',fv',hlt,by go_num,HO5.out,HLR5.out⟩
      case measure=>simp[intOf];omega
     ·by_cases hk2:x.kind=2
      ·have HLC:Hid (zcg its n x=[((n:Int),zaA (zaP its ⟨x.name,x.a,x.b,x.c⟩) :: zbl (zaK its x.other x.rng))]):=by show _=_;unfold zcg zbl;rw[if_neg hk4,if_pos hk2];rfl
       have hab:=zdp hl x.other x.rng;have hnb:=zcM its ⟨x.name,x.a,x.b,x.c⟩ hl;have HNU:=zH (zgh bk ls its x.name x.a x.b x.c W2 HCAT.out (by omega));have HAM:=zH (fun w3 hb3=>zhK bk ls its x.other x.rng HRG1.out (.slice ra x.rng.length rc) w3 (HCAT.out.below (B:=W2.heap.size) hb3 zN) (by omega) hn2 (HSP.out.below hb3 zN));generalize zaK its x.other x.rng=am at *;generalize zaP its ⟨x.name,x.a,x.b,x.c⟩=nu at *;go_wp2_with fail;refine HNU.out.mono ?_;rintro e w3 ⟨rfl,hb3⟩;clear HNU d0 d1 d2 d3 d4 d5 d6;go_wp2_with fail;refine(zkk nu (by omega) (by omega) _).mono ?_;rintro e w' ⟨rfl,hw'⟩;rw[hw'];clear hw';clear w';have kx3:=HX.out.below hb3 HX.out.lt;have d5:_=some (Value.string x.other):=kx3.cell 5;have d6:_=some (Value.slice ra x.rng.length rc):=kx3.cell 6;have HA3:=zH (HAM.out w3 hb3);have HO3:=zH (HOS1.out.new hb3);have HLR3:=zH (zad HLR.out hb3);generalize zaA nu=own at *;clear kx3 HAM hb3 HOS1 HLR HX HCAT HSP HRG1 hO1;go_wp2_with fail;refine HA3.out.mono ?_;rintro e w4 ⟨av,rfl,har,hb4⟩;have HTH:=zH (zkv am av w4 (by omega) (fun x hx=>by have:=hab.2 x hx;omega) (zaa har));obtain⟨aa,ac,rfl,-⟩:=(zaa har).form;have HO4:=zH (HO3.out.new hb4);have HLR4:=zH (zad HLR3.out hb4);clear d5 d6 har HA3 HO3 HLR3 hb4;go_wp2_with fail;refine HTH.out.mono ?_;rintro e w5 ⟨tv,rfl,htr,ht0,hb5⟩;have hvb:=Blk.new w5 3 #[.int .i64 own];have hbn:=zac w5 (.cells #[.int .i64 own] 3);have HINS:=zH (zrX (zbl am) own tv w5.heap.size w4.heap.size (w5.alloc (.cells #[.int .i64 own] 3)) (Nat.le_trans hb5.size hbn.size) (by rw[zcq];exact zad htr hbn) (fun e=>ht0 (by cases am with|nil=>rfl|cons _ _=>cases e)) hvb (fun e=>by have:=(htr.lt _ e).2;omega) (by rw[zcq];omega));have HB5:=zH (zT hb5 hbn);obtain⟨ta,tc,rfl,-⟩:=(zaa htr).form;rw[zcq] at HINS;clear HTH htr ht0 hb5 hvb hbn;go_wp2_with fail;refine HINS.out.mono ?_;rintro e w6 ⟨g6,cap6,rfl,t1,t2,t3,t4,hb6⟩;have hb7:=HB5.out.trans hb6;have HO6:=zH (HO4.out.new hb7);have HLR6:=zH (zad HLR4.out hb7);have HADD:=zH (zr2 HO6.out (Nat.le_trans hlen (by omega)) (n:Int) (some ⟨g6,0,none⟩) (own :: zbl am) cap6 (by simp[zcq];exact t1) t2 t3 (fun _ g hg=>by simp[Value.ownBlock] at hg;subst hg;exact HO4.out.fresh t4) (fun ad e=>by cases e;rfl));rw[List.length_cons,zcq] at HADD;clear HINS hb6 hb7 HB5 HO4 HLR4 t1 t2 t3 t4;go_wp2_with fail;refine HADD.out.mono ?_;rintro e w7 ⟨rfl,cv',fv',ho,hf,-,-⟩;have HO5:Hid (OS w w7 b5 (its.length:Int) cv' fv' (prF its its.length++lnL its ls (n+1)) (.slice ia its.length ic) its):=by show OS _ _ _ _ _ _ _ _ _;rw[HSU.out,HLC.out,<-List.append_assoc];exact ho
       have HLR5:=zH (HO6.out.keepRow hf HLR6.out (by decide) (by decide) (by decide));clear HADD ho hf HO6 HLR6;go_wp2;go_roundw
       case rel=>exact⟨n+1,cv',fv',hlt,by go_num,HO5.out,HLR5.out⟩
       case measure=>simp[intOf];omega
      ·by_cases hk3:x.kind=3
       ·have HLC:Hid (zcg its n x=(zaK its x.other x.rng).map fun (k:Nat)=>((n:Int),[zaA (zaP its ⟨x.name,x.a,x.b,x.c⟩),zaA (k:Int)])):=by show _=_;unfold zcg;rw[if_neg hk4,if_neg hk2,if_pos hk3];rfl
        have hab:=zdp hl x.other x.rng;have hnb:=zcM its ⟨x.name,x.a,x.b,x.c⟩ hl;have HNU:=zH (zgh bk ls its x.name x.a x.b x.c W2 HCAT.out (by omega));have HAM:=zH (fun w3 hb3=>zhK bk ls its x.other x.rng HRG1.out (.slice ra x.rng.length rc) w3 (HCAT.out.below (B:=W2.heap.size) hb3 zN) (by omega) hn2 (HSP.out.below hb3 zN));generalize zaK its x.other x.rng=am at *;generalize zaP its ⟨x.name,x.a,x.b,x.c⟩=nu at *;go_wp2_with fail;refine HNU.out.mono ?_;rintro e w3 ⟨rfl,hb3⟩;clear HNU d0 d1 d2 d3 d4 d5 d6;go_wp2_with fail;refine(zkk nu (by omega) (by omega) _).mono ?_;rintro e w' ⟨rfl,hw'⟩;rw[hw'];clear hw';clear w';have kx3:=HX.out.below hb3 HX.out.lt;have d5:_=some (Value.string x.other):=kx3.cell 5;have d6:_=some (Value.slice ra x.rng.length rc):=kx3.cell 6;have HA3:=zH (HAM.out w3 hb3);have HO3:=zH (HOS1.out.new hb3);have HLR3:=zH (zad HLR.out hb3);generalize zaA nu=own at *;clear kx3 HAM hb3 HOS1 HLR HX HCAT HSP HRG1 hO1;go_wp2_with fail;refine HA3.out.mono ?_;rintro e w4 ⟨av,rfl,har,hb4⟩;have HFN:Hid (∀g,av.ownBlock=some g->some g≠fv.ownBlock):=fun g hg=>HO3.out.fresh (har.lt g hg).1;have HAR:=zH har;have HO4:Hid (OS w w4 b5 (its.length:Int) cv fv ((prF its its.length++lnL its ls n)++((am.take 0).map fun (k:Nat)=>((n:Int),[own,zaA (k:Int)]))) (.slice ia its.length ic) its):=by show OS _ _ _ _ _ _ _ _ _;rw[List.take_zero,List.map_nil,List.append_nil];exact HO3.out.new hb4
        have HLR4:=zH (zad HLR3.out hb4);obtain⟨aa,ac,rfl,-⟩:=(zaa har).form;clear d5 d6 har HA3 HO3 HLR3 hb4;go_wp2_with fail;go_loopw [110] (fun jV wr=>∃(j:Nat) (cv fv:Value),j<=am.length/\jV=.int .i64 j/\OS w wr b5 (its.length:Int) cv fv ((prF its its.length++lnL its ls n)++((am.take j).map fun (k:Nat)=>((n:Int),[own,zaA (k:Int)]))) (.slice ia its.length ic) its/\wr.ownsRow w.heap.size 130 7 (.slice (some ⟨g,0,none⟩) ls.length lc) ls.length (zav ls vs)/\wr.ownsRow w3.heap.size 3 1 (.slice aa am.length ac) am.length (zaf (am.map fun (k:Nat)=>(k:Int)))/\(∀g,(Value.slice aa am.length ac).ownBlock=some g->some g≠fv.ownBlock)) (fun jV _=>am.length-(intOf jV).toNat)
        case atStart=>exact⟨0,_,_,Nat.zero_le _,rfl,HO4.out,HLR4.out,HAR.out,HFN.out⟩
        case round =>
         clear HFN HAR HO4 HLR4;obtain⟨j,cv,fv,hjl,rfl,hos,hlr,har,hfn⟩:=hrel
         by_cases hjt:j<am.length
         ·obtain⟨ga,cap',e,hga,hca⟩:=(zaa har).cells (by omega);simp at e;obtain⟨rfl,rfl⟩:=e;have hcj:wr.cell? ⟨ga,j,none⟩=some (.int .i64 ((am.getD j 0:Nat):Int)):=hca j _ (by rw[zbj _ _ (by simpa using hjt)];simp[List.getD_eq_getElem?_getD,hjt]);have hxb:am.getD j 0<=24:=hab.2 _ (by rw[List.getD_eq_getElem?_getD,List.getElem?_eq_getElem hjt];exact List.getElem_mem hjt);have hlen2:((prF its its.length++lnL its ls n)++((am.take j).map fun (k:Nat)=>((n:Int),[own,zaA (k:Int)]))).length<=90000:=by have h1:=List.length_take_le j am;have h2:=hab.1;rw[List.length_append,List.length_map];omega
          have HTK:Hid ((am.take (j+1)).map (fun (k:Nat)=>((n:Int),[own,zaA (k:Int)]))=(am.take j).map (fun (k:Nat)=>((n:Int),[own,zaA (k:Int)]))++[((n:Int),[own,zaA ((am.getD j 0:Nat):Int)])]):=by
           show _=_;rw[List.take_add_one,List.getElem?_eq_getElem hjt,List.map_append,List.getD_eq_getElem?_getD,List.getElem?_eq_getElem hjt];rfl
          generalize am.getD j 0=kk at *;have hjj0:(0:Int)<=(j:Int):=by omega
          have hjj1:(j:Int)<(am.length:Int):=by omega
          have HOJ:=zH hos;have HLJ:=zH hlr;have HAJ:=zH har;have HFJ:=zH hfn;have hgl:=hga;clear hos hlr har hfn hca;go_wp2_with fail;refine(zkk (kk:Int) (by omega) (by omega) _).mono ?_;rintro e w' ⟨rfl,hw'⟩;rw[hw'];clear hw';clear w';clear hcj;generalize zaA (kk:Int)=nk at *;go_wp2_with fail;refine(zrq HOJ.out hlen2 (n:Int) own nk).mono ?_;rintro e w5 ⟨rfl,cv',fv',ho,hf,-,hlf⟩;have HO5:Hid (OS w w5 b5 (its.length:Int) cv' fv' ((prF its its.length++lnL its ls n)++((am.take (j+1)).map fun (k:Nat)=>((n:Int),[own,zaA (k:Int)]))) (.slice ia its.length ic) its):=by show OS _ _ _ _ _ _ _ _ _;rw[HTK.out,<-List.append_assoc];exact ho
          have hosa:=HOJ.out.new (zac wr (.cells #[.int .i64 own,.int .i64 nk] 3));have HLR5:=zH (hosa.keepRow hf (zad HLJ.out (zac _ _)) (by decide) (by decide) (by decide));have HAR5:=zH (hosa.keepInts hf (zad HAJ.out (zac _ _)) HFJ.out);have HFN5:Hid (∀g,(Value.slice (some ⟨ga,0,none⟩) am.length ac).ownBlock=some g->some g≠fv'.ownBlock):=fun g hg=>by
           rcases hlf with e|⟨g',e,hg'⟩
           ·rw[e];exact HFJ.out g hg
           ·rw[e];simp[Value.ownBlock] at hg;simp at hg' ⊢;omega
          clear ho hf hlf hosa HOJ HLJ HAJ HFJ HTK;go_wp2;go_roundw
          case rel=>exact⟨j+1,cv',fv',hjt,by go_num,HO5.out,HLR5.out,HAR5.out,HFN5.out⟩
          case measure=>simp[intOf];omega
         ·obtain rfl:j=am.length:=by omega
          have HO5:Hid (OS w wr b5 (its.length:Int) cv fv (prF its its.length++lnL its ls (n+1)) (.slice ia its.length ic) its):=by
           show OS _ _ _ _ _ _ _ _ _;rw[HSU.out,HLC.out,<-List.append_assoc];rw[List.take_length] at hos;exact hos
          have HLR5:=zH hlr;clear hos hlr har hfn HSU HLC;go_wp2;go_roundw
          case rel=>exact⟨n+1,cv,fv,hlt,by go_num,HO5.out,HLR5.out⟩
          case measure=>simp[intOf];omega
       ·have HLC:Hid (zcg its n x=[]):=by show _=_;unfold zcg;rw[if_neg hk4,if_neg hk2,if_neg hk3]
        have HO5:Hid (OS w W2 b5 (its.length:Int) cv fv (prF its its.length++lnL its ls (n+1)) (.slice ia its.length ic) its):=by show OS _ _ _ _ _ _ _ _ _;rw[HSU.out,HLC.out,List.append_nil];exact HOS1.out
        clear HSU HLC HX HCAT HSP HRG1 HOS1;go_wp2;go_roundw
        case rel=>exact⟨n+1,cv,fv,hlt,by go_num,HO5.out,HLR.out⟩
        case measure=>simp[intOf];omega
    ·obtain rfl:n=ls.length:=by omega
     have hlenF:(prF its its.length++lnL its ls ls.length).length=PF.length:=by rw[HFIN.out]
     obtain⟨csx,hcx,-⟩:=hos.rs.crow;rw[List.length_map,hlenF] at hcx;obtain⟨ca,cc,rfl,-⟩:=(zaa hcx).form;have c0:_=some (Value.int .i64 its.length):=hos.r5.cell 0;have c1:_=some (Value.slice ca PF.length cc):=hos.r5.cell 1;have c2:_=some fv:=hos.r5.cell 2;have d0:_=some (Value.int .i64 0):=hos.r2.cell 0;have d1:_=some (Value.slice none 0 0):=hos.r2.cell 1;have d2:_=some (Value.slice none 0 0):=hos.r2.cell 2;have f0:=hos.r2.frozen 0;have f1:=hos.r2.frozen 1;have f2:=hos.r2.frozen 2;have HO:=zH hos;have hlo:=hos.lo;clear hcx hos hlr hlenF
     by_cases hbig:200<PF.length
     ·have hbi:(200:Int)<(PF.length:Int):=by omega
      have q0:Blk (((wr.setCell ⟨w.heap.size,0,none⟩ (.int .i64 0)).setCell ⟨w.heap.size,1,none⟩ (.slice none 0 0)).setCell ⟨w.heap.size,2,none⟩ (.slice none 0 0)) w.heap.size 65 #[.int .i64 0,.slice none 0 0,.slice none 0 0]:=((HO.out.r2.set (i:=0)).set (i:=1)).set (i:=2);have hB:zB w (((wr.setCell ⟨w.heap.size,0,none⟩ (.int .i64 0)).setCell ⟨w.heap.size,1,none⟩ (.slice none 0 0)).setCell ⟨w.heap.size,2,none⟩ (.slice none 0 0)):=((HO.out.B.setCell (p:=⟨w.heap.size,0,none⟩) zN _).setCell (p:=⟨w.heap.size,1,none⟩) zN _).setCell (p:=⟨w.heap.size,2,none⟩) zN _;have Q0:=zH q0;have HB:=zH hB;clear q0 hB HO;go_wp2;generalize ((wr.setCell ⟨w.heap.size,0,none⟩ (.int .i64 0)).setCell ⟨w.heap.size,1,none⟩ (.slice none 0 0)).setCell ⟨w.heap.size,2,none⟩ (.slice none 0 0)=WG at *;have r0:=Q0.out.cell 0;have r1:=Q0.out.cell 1;have r2:=Q0.out.cell 2;refine bodyPost_ret (v:=.tuple #[.agg #[.int .i64 0,.slice none 0 0,.slice none 0 0],.iface 57 (.int .i64 4)]) (by simp[results,Tryz.f73,go_sem,r0,r1,r2]) rfl ?_;exact .inl ⟨hbig,rfl,HB.out⟩
     ·have hbi:¬(200:Int)<(PF.length:Int):=by omega
      have q0:Blk (((wr.setCell ⟨w.heap.size,0,none⟩ (.int .i64 its.length)).setCell ⟨w.heap.size,1,none⟩ (.slice ca PF.length cc)).setCell ⟨w.heap.size,2,none⟩ fv) w.heap.size 65 #[.int .i64 its.length,.slice ca PF.length cc,fv]:=((HO.out.r2.set (i:=0)).set (i:=1)).set (i:=2);have hB:zB w (((wr.setCell ⟨w.heap.size,0,none⟩ (.int .i64 its.length)).setCell ⟨w.heap.size,1,none⟩ (.slice ca PF.length cc)).setCell ⟨w.heap.size,2,none⟩ fv):=((HO.out.B.setCell (p:=⟨w.heap.size,0,none⟩) zN _).setCell (p:=⟨w.heap.size,1,none⟩) zN _).setCell (p:=⟨w.heap.size,2,none⟩) zN _;have hR:=(((HO.out.rs.set (i:=0) (v:=.int .i64 its.length) HO.out.r2 (by omega)).set (i:=1) (v:=.slice ca PF.length cc) (HO.out.r2.set (i:=0)) (by omega)).set (i:=2) (v:=fv) ((HO.out.r2.set (i:=0)).set (i:=1)) (by omega)).base (B':=w.heap.size) (by omega);rw[<-HFIN.out] at hR;have Q0:=zH q0;have HB:=zH hB;have HR:=zH hR;obtain⟨fa,fc,hfe,-⟩:=(zaa HO.out.rs.frow).form;rw[List.length_map,<-HFIN.out] at hfe;subst hfe;clear q0 hB HO hR;go_wp2;generalize ((wr.setCell ⟨w.heap.size,0,none⟩ (.int .i64 its.length)).setCell ⟨w.heap.size,1,none⟩ (.slice ca PF.length cc)).setCell ⟨w.heap.size,2,none⟩ (.slice fa PF.length fc)=WG at *;have r0:=Q0.out.cell 0;have r1:=Q0.out.cell 1;have r2:=Q0.out.cell 2;refine bodyPost_ret (v:=.tuple #[.agg #[.int .i64 its.length,.slice ca PF.length cc,.slice fa PF.length fc],.nilIface]) (by simp[results,Tryz.f73,go_sem,r0,r1,r2]) rfl ?_;exact .inr ⟨by omega,_,_,rfl,HR.out,HB.out⟩
end
end Go.Proofs.YtiihalknffbjpaaGreatDoor
