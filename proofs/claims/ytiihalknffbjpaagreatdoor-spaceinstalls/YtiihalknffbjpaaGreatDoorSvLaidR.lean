/- What the rows' lists give of solspaceref.Fine; a world in which the lists hold. -/
import Derived.Test.YtiihalknffbjpaaGreatDoorSbCost
import Derived.Test.YtiihalknffbjpaaGreatDoorCards
import Derived.Test.YtiihalknffbjpaaGreatDoorTie
import Derived.Deep.DeepHandedRow
import Derived.Stop.LaidErr
import Derived.Lib.SmallJoins
namespace Go.Proofs.YtiihalknffbjpaaGreatDoor
set_option maxHeartbeats 8000000
set_option maxRecDepth 100000
namespace Bd
open Go.RowKit
def zow(k v i:Nat)(f:Nat->Bool):Nat->Bool:=fun j=>if v<=j/\j<v+k then i.testBit (v+k-1-j) else f j
theorem zuF{k v i:Nat}(f:Nat->Bool)(hi:i<2^k):zow (k+1) v i f=zow k (v+1) i (turn f v false):=funext fun j=>by
 unfold zow
 by_cases e:j=v
 ·subst e;rw[if_pos (by omega),if_neg (by omega),za9,show j+(k+1)-1-j=k by omega];exact Nat.testBit_lt_two_pow hi
 ·by_cases h:v<=j/\j<v+(k+1)
  ·rw[if_pos h,if_pos (by omega)];congr 1;omega
  ·rw[if_neg h,if_neg (by omega),zaA _ _ e]
theorem zss{k v i:Nat}(f:Nat->Bool)(hi:i<2^k):zow (k+1) v (2^k+i) f=zow k (v+1) i (turn f v true):=funext fun j=>by
 unfold zow
 by_cases e:j=v
 ·subst e;rw[if_pos (by omega),if_neg (by omega),za9,show j+(k+1)-1-j=k by omega,Nat.testBit_two_pow_add_eq,Nat.testBit_lt_two_pow hi];rfl
 ·by_cases h:v<=j/\j<v+(k+1)
  ·rw[if_pos h,if_pos (by omega),Nat.testBit_two_pow_add_gt (by omega)];congr 1;omega
  ·rw[if_neg h,if_neg (by omega),zaA _ _ e]
theorem zgC(g:Fn'):∀(k v:Nat) (f:Nat->Bool),zeg k v g f=((List.range (2^k)).filter fun i=>g (zow k v i f)).length
 |0,v,f=>by
  have e:zow 0 v 0 f=f:=funext fun j=>if_neg (by omega);unfold zeg;show _=([0].filter fun i=>g (zow 0 v i f)).length;rw[List.filter_cons,e];cases g f<;>rfl
 |k+1,v,f=>by
  unfold zeg;rw[zgC g k (v+1) (turn f v false),zgC g k (v+1) (turn f v true),show 2^(k+1)=2^k+2^k by rw[Nat.pow_succ];omega,List.range_add,List.filter_append,List.length_append,List.filter_map,List.length_map];congr 1
  ·refine congrArg _ (List.filter_congr fun i hi=>?_);rw[zuF f (List.mem_range.1 hi)]
  ·refine congrArg _ (List.filter_congr fun i hi=>?_);show _=g (zow (k+1) v (2^k+i) f);rw[zss f (List.mem_range.1 hi)]
theorem zq0(N:Nat):(List.range N).map (fun i=>N-1-i)=(List.range N).reverse:=by
 apply List.ext_getElem
 ·simp
 ·intro i h1 h2;simp
theorem zpV{vars:Nat}{K:List (List Int)}(h12:vars<=12)(hl:ze2 vars K):(zeK vars K (2^vars)).length=zjA vars K:=by
 have e:zeK vars K (2^vars)=(((List.range (2^vars)).map fun i=>2^vars-1-i).map (zkr vars)).filter fun x=>zkn x K:=by unfold zeK;rw[List.map_map];rfl
 rw[e,zq0,List.filter_map,List.length_map,List.filter_reverse,List.length_reverse];unfold zjA;rw[zgC];refine congrArg _ (List.filter_congr fun i hi=>?_);show zkn (zkr vars i) K=_;rw[<-ziC (show vars<=24 by omega) hl];refine zha hl fun j hj=>?_;show (zkr vars i).testBit j=zow vars 0 i _ j;unfold zow;rw[zii _ hj,if_pos (by omega),Nat.zero_add]
end Bd
namespace Bd
open Go.RowKit Go.Deep Sv
theorem zsd:(Tryz.prog.info? 9).map (fun i=>(i.zero,i.size,i.bytes))=some (some (.string ⟨#[]⟩),1,16):=by kernel_rfl
theorem zs1(n:Nat):Lib.itoa (n:Int)=Lib.decDigits n:=by unfold Lib.itoa;rw[if_neg (by omega),Int.toNat_natCast]
theorem zxR(g c:Nat)(s:ByteArray)(w:World)(h:w.cell? ⟨g,0,none⟩=some (.string s)):zC 82 #[.slice (some ⟨g,0,none⟩) 1 c,.string ⟨#[32]⟩] w fun e w'=>e=.returned (.string s)/\w=w':=by
 go_enter Tryz.func82,Tryz.ntmps82;go_wp2;go_ret;exact⟨rfl,rfl⟩
theorem zo5(w:World)(x:ByteArray)(t:TypeId):∀(j:Nat) (u:Value),[Value.string x][j]?=some u->(w.alloc (.cells #[.string x] t)).cell? ((⟨w.heap.size,0,none⟩:Addr).add j)=some u:=by
 intro j u hj;have:j=0:=by have:=(List.getElem?_eq_some_iff.1 hj).1;simp at this;omega
 subst this;rw[add_plain,(Blk.new w t #[.string x]).cell];exact hj
theorem zqJ(n:Nat)(hn:n<=100000000)(bs cp:Nat)(w:World)(hw:Lb w)(h0:w.cell? ⟨bs,0,none⟩=some (.int .i64 n)) :
  zR 20 #[.slice (some ⟨bs,0,none⟩) 1 cp] w (.string ⟨(Lib.decDigits n).toArray⟩):=by
 obtain⟨i0,hin,hz0,hz1,hz2⟩:=info_parts zsd;have HI:=ztC (n:Int) (by omega) w hw;rw[zs1] at HI;have HIT:=zH HI;clear HI hw;generalize (⟨(Lib.decDigits n).toArray⟩:ByteArray)=R at *;go_enter Tryz.func20,Tryz.ntmps20;go_wp2_with fail;go_loopw [3,8] (fun v i wr=>(i=.int .i64 0/\v=.slice none 0 0/\wr=w)\/(i=.int .i64 1/\wr.ownsRow w.heap.size 9 1 v 1 [.string R]/\zB w wr)) (fun _ i _=>1-(intOf i).toNat)
 case atStart=>exact Or.inl ⟨rfl,rfl,rfl⟩
 case round =>
  rcases hrel with ⟨rfl,rfl,rfl⟩|⟨rfl,hrow,hb⟩
  ·go_wp2_with fail;refine HIT.out.mono ?_;rintro e w2 ⟨rfl,hb2⟩;have hs2:=hb2.size;have HB2:=zH hb2;clear hb2 HIT h0;go_wp2_with (at_builtin;refine wpList_append_own_at _ rfl _ _ 167 rfl wr.heap.size 9 i0 (.string ⟨#[]⟩) 1 16 Tryz.underlying167 hin hz0 hz1 hz2 rfl (by decide) _ _ _ rfl (World.ownsRow_nil _ _ _ _) ⟨w2.heap.size,0,none⟩ 1 1 [.string R] rfl rfl ?e1 ?e2 ?e3 ?e4 ?e5 ?_)
   case e1=>exact zo5 _ _ _
   case e2=>exact fun u hu=>by rw[List.mem_singleton] at hu;subst hu;rfl
   case e3=>unfold maxLen;omega
   case e4=>omega
   case e5=>simp;omega
   intro v8 w8 hown8 hgrow8 _ hloc8;have HR8:Hid (w8.ownsRow wr.heap.size 9 1 v8 1 [.string R]):=(show w8.ownsRow wr.heap.size 9 1 v8 1 [.string R] by simpa using hown8);have HB8:Hid (zB wr w8):=(HB2.out.alloc hs2 _).grown hgrow8 (by simp;omega) (fun k hk=>by cases hk);obtain⟨v8a,v8c,rfl,-⟩:=row_form HR8.out;clear hown8 hgrow8 hloc8;go_wp2;go_roundw
   case rel=>exact Or.inr ⟨by go_num,HR8.out,HB8.out⟩
   case measure=>simp[intOf]
  ·obtain⟨va,vc,rfl,-⟩:=row_form hrow;have hva:∃g,va=some ⟨g,0,none⟩/\wr.cell? ⟨g,0,none⟩=some (.string R):=by
    rcases hrow.2 with ⟨e,e0⟩|⟨g,cap,cur,e,-⟩
    ·omega
    ·injection e with e1 e2 e3;subst e1;exact⟨g,rfl,hrow.cellAt 0 (by omega)⟩
   obtain⟨g,rfl,hg⟩:=hva;have HJ:=zH (zxR g vc R wr hg);have HB:=zH hb;clear hrow hb HIT hg;go_wp2_with fail;refine HJ.out.mono ?_;rintro e w3 ⟨rfl,rfl⟩;go_wp2;go_ret;exact⟨rfl,HB.out⟩
end Bd
namespace Bd
open Go.RowKit Go.Deep Sv
def zpW(w:World)(m:Nat)(q e:Value)(wx:World):Prop:=∃qb a n c,q=.pointer (some ⟨qb,0,none⟩)/\e=.nilIface/\qb<wx.heap.size/\wx.cell? ⟨qb,0,none⟩=some (.slice a n c)/\zbj wx (.agg #[.slice a n c]) m/\zB w wx
structure zxp(W0:World)(p s:Nat)(al:Int)(m:Nat):Prop where
 sc:∀W,zB W0 W->W.cell? ⟨p,0,none⟩=some (.pointer (some ⟨s,0,none⟩))/\W.cell? ⟨p,1,none⟩=some (.int .i64 al)
 cn:∀W,zB W0 W->zC 18 #[.pointer (some ⟨s,0,none⟩),.int .i64 al] W fun e w'=>∃a n c,e=.returned (.tuple #[.agg #[.slice a n c],.nilIface])/\zbj w' (.agg #[.slice a n c]) m/\zB W w'
theorem zrT{B p s b vars:Nat}{O:Nat->Prop}{room:Int}{K:List (List Int)}{W0:World}(h:zfD B W0 p s b O vars room (clF K))(h12:vars<=12)(hl:ze2 vars K):zxp W0 p s (clF K).2 (zjA vars K) :=
 ⟨fun _ hW=>⟨(h.blk.below hW h.blk.lt).cell 0,(h.blk.below hW h.blk.lt).cell 1⟩,fun _ hW=>zoG (h.space.new hW) h12 hl⟩
theorem zrV{W0 x1:World}{m n c:Nat}{a:Option Addr}(D1:zB W0 x1)(hn:zbj x1 (.agg #[.slice a n c]) m):zpW W0 m (.pointer (some ⟨x1.heap.size,0,none⟩)) .nilIface (x1.alloc (.cells #[.slice a n c] 42)) :=
 ⟨x1.heap.size,a,n,c,rfl,rfl,by simp,by simp,hn.new (below_new x1 _),zL D1⟩
theorem ztA{W0 x1:World}{m n c q:Nat}{a:Option Addr}(D1:zB W0 x1)(hq:W0.heap.size<=q)(kz:Blk x1 q 42 #[.slice none 0 0])(hn:zbj x1 (.agg #[.slice a n c]) m):zpW W0 m (.pointer (some ⟨q,0,none⟩)) .nilIface (x1.setCell ⟨q,0,none⟩ (.slice a n c)) :=
 ⟨q,a,n,c,rfl,rfl,by simpa using kz.lt,(kz.set (i:=0) (v:=.slice a n c)).cell 0,hn.kept (zah.setCell (S:=fun j=>j=q) x1 ⟨q,0,none⟩ _ rfl) (fun b' o n' e=>by
  cases e;rw[kz.cell o]
  match o with
  |0=>simp
  | o + 1=>simp),D1.setCell (p:=⟨q,0,none⟩) hq _⟩
end Bd
section
open Go.RowKit Go.Deep
theorem zja(xs:List Int)(a1 a2:Option Addr)(c1 c2:Nat)(w:World)(h1:zbu w a1 xs)(h2:zbu w a2 xs)(hm:xs.length<=9223372036854775807) :
  zR 23 #[.slice a1 xs.length c1,.slice a2 xs.length c2] w (.bool true):=by
 have H1:=zH h1;have H2:=zH h2;clear h1 h2;have enn:((xs.length:Int) != (xs.length:Int))=false:=by simp
 go_enter Tryz.func23,Tryz.ntmps23;go_wp2_with fail;go_loopw [5] (fun kV wr=>∃k:Nat,k<=xs.length/\kV=.int .i64 k/\zB w wr) (fun kV _=>xs.length-(intOf kV).toNat)
 case atStart=>exact⟨0,Nat.zero_le _,rfl,Below.refl _ _⟩
 case round =>
  obtain⟨k,hk,rfl,hbr⟩:=hrel;have HBR:=zH hbr;clear hbr
  by_cases hlt:k<xs.length
  ·obtain⟨ad1,rfl,hl1,hc1⟩:=H1.out.below HBR.out k hlt;obtain⟨ad2,rfl,hl2,hc2⟩:=H2.out.below HBR.out k hlt;generalize xs.getD k 0=x at *;have exx:(x != x)=false:=by simp
   have HBN:Hid (∀q,zB w (wr.drewN q)):=fun q=>HBR.out.trans ⟨rfl,rfl,rfl,Nat.le_refl _,fun _ _=>rfl⟩;go_wp2_with fail;go_quiet (fail);go_wp2;go_roundw
   case rel=>exact⟨k+1,hlt,by go_num,HBN.out _⟩
   case measure=>simp[intOf];omega
  ·obtain rfl:k=xs.length:=by omega
   go_wp2;go_ret;exact⟨rfl,HBR.out⟩
end
namespace Bd
open Go.RowKit Go.Deep Sv Lib Go.Sort
structure Two(w W:World)(a b:Value)(xs ys:List Int):Prop where
 ra:W.ownsRow w.heap.size 3 1 a xs.length (Go.Proofs.YtiihalknffbjpaaGreatDoor.icells xs)
 rb:W.ownsRow w.heap.size 3 1 b ys.length (Go.Proofs.YtiihalknffbjpaaGreatDoor.icells ys)
 ap:∀k,a.ownBlock=some k->b.ownBlock≠some k
 bel:zB w W
theorem zoT{B:Nat}{w w':World}{t:TypeId}{size:Nat}{v:Value}{n:Nat}{cs:List Value}{r:Option Nat}(h:w.ownsRow B t size v n cs)(hg:w.grownBy w' r)(hr:∀k,v.ownBlock=some k->r≠some k):w'.ownsRow B t size v n cs:=by
 refine⟨h.1,?_⟩;rcases h.2 with h2|⟨g,cap,cur,hv,hB,hh,q⟩
 ·exact Or.inl h2
 ·exact Or.inr ⟨g,cap,cur,hv,hB,(hg.block g (Array.getElem?_eq_some_iff.1 hh).1 (fun e=>hr g (by rw[hv];rfl) e.symm)).trans hh,q⟩
theorem Two.growA{w W W':World}{a a' b:Value}{xs ys:List Int}{x:Int}{o:Obj}(h:Two w W a b xs ys)(hown:W'.ownsRow w.heap.size 3 1 a' (xs.length+1) (Go.Proofs.YtiihalknffbjpaaGreatDoor.icells xs++[.int .i64 x]))(hg:(W.alloc o).grownBy W' a.ownBlock)(hloc:a'.ownBlock=a.ownBlock\/a'.ownBlock=some (W.alloc o).heap.size):Two w W' a' b (xs++[x]) ys:=by
 refine⟨by rw[List.length_append,zaD];exact hown,zoT (h.rb.alloc o) hg (fun k hk e=>h.ap k e hk),fun k hk=>?_,(h.bel.alloc h.bel.size o).grown hg (by simp;have:=h.bel.size;omega) (fun k hk=>(h.ra.lt k hk).1)⟩;rcases hloc with e|e
 ·exact h.ap k (e▸hk)
 ·rw[e] at hk;intro hb;have h1:=(h.rb.lt k hb).2;have h2:(W.alloc o).heap.size=k:=Option.some.inj hk;simp at h2;omega
theorem Two.growB{w W W':World}{a b b':Value}{xs ys:List Int}{x:Int}{o:Obj}(h:Two w W a b xs ys)(hown:W'.ownsRow w.heap.size 3 1 b' (ys.length+1) (Go.Proofs.YtiihalknffbjpaaGreatDoor.icells ys++[.int .i64 x]))(hg:(W.alloc o).grownBy W' b.ownBlock)(hloc:b'.ownBlock=b.ownBlock\/b'.ownBlock=some (W.alloc o).heap.size):Two w W' a b' xs (ys++[x]):=by
 refine⟨zoT (h.ra.alloc o) hg (fun k hk e=>h.ap k hk e),by rw[List.length_append,zaD];exact hown,fun k hk=>?_,(h.bel.alloc h.bel.size o).grown hg (by simp;have:=h.bel.size;omega) (fun k hk=>(h.rb.lt k hk).1)⟩;rcases hloc with e|e
 ·rw[e];exact h.ap k hk
 ·rw[e];intro hb;have h1:=(h.ra.lt k hk).2;have h2:(W.alloc o).heap.size=k:=Option.some.inj hb;simp at h2;omega
theorem zn7(s:ByteArray)(w:World)(hw:Lw w)(hF:zdz w)(ad:Addr)(kc:Nat)(hK:zbN w ad kc)(h:zfU s=none):zR 3 #[.string s] w (.bool true):=by
 have HB0:=ztR s _ hw hF ad kc hK;rw[h] at HB0;have HB:Hid (zR 13 #[.string s] w (.tuple #[.pointer none,.slice none 0 0,.bool false])):=HB0;clear HB0 hw hF hK h;go_enter Tryz.func3,Tryz.ntmps3;go_wp2_with fail;refine HB.out.mono ?_;rintro e w1 ⟨rfl,hb1⟩;have HF:=zH hb1;clear hb1 HB;go_wp2;go_ret;exact⟨rfl,HF.out⟩
theorem znt(s:ByteArray)(w:World)(hw:Lw w)(hF:zdz w)(ad:Addr)(kc:Nat)(hK:zbN w ad kc)(ls:List Ln)(its:List It)(h:zfU s=some (ls,its)):zR 3 #[.string s] w (.bool true):=by
 obtain⟨i0,hin,hz0,hz1,hz2⟩:=info_parts zcl;have HB0:=ztR s _ hw hF ad kc hK;rw[h] at HB0;have HB:Hid (zC 13 #[.string s] w fun e w'=>∃bc v,e=.returned (.tuple #[.pointer (some ⟨bc,0,none⟩),v,.bool true])/\zfR w' bc ls its/\RLs w' v ls/\zB w w'):=HB0;have HLW:=zH hw;have hN:=zo8 h;have HN:=zH hN;clear HB0 hw hF hK h hN;go_enter Tryz.func3,Tryz.ntmps3;go_wp2_with fail;refine HB.out.mono ?_;rintro e w1 ⟨bc,v,rfl,hc1,hv1,hb1⟩;obtain⟨va,vc,rfl⟩:∃va vc,v=.slice va ls.length vc:=by obtain⟨vs,_,h2⟩:=hv1;obtain⟨a,c,e,_⟩:=h2.form;exact⟨a,c,e⟩
 have HC1:=zH hc1;have HB1:=zH hb1;have HS1:=zH (zut ls its _ 8 w1 hv1 HN.out);clear hc1 hv1 hb1 HB;go_wp2_with fail;refine HS1.out.mono ?_;rintro e w2 ⟨ca,cc,rfl,hcl2,hb2⟩;have HCL2:=zH hcl2;have HB2:=zH (zT HB1.out hb2);have HC2:=zH (HC1.out.below hb2 zN);clear hcl2 hb2 HS1 HC1 HB1
 by_cases hP:¬((ofL its ls).length<=200/\its.length<=8)
 ·have hd:(decide ((ofL its ls).length<=200)&&decide (its.length<=8))=false:=by
   rw[Bool.and_eq_false_iff]
   by_cases q:(ofL its ls).length<=200
   ·right;exact decide_eq_false (fun e=>hP ⟨q,e⟩)
   ·left;exact decide_eq_false q
  rw[hd];clear HN;go_wp2;go_ret;exact⟨rfl,HB2.out⟩
 obtain⟨hP2,hv8⟩:=Decidable.not_not.1 hP;clear hP;rw[decide_eq_true hP2,decide_eq_true hv8];have hN:=HN.out;have hnk:=zlJ hN;have hnm:∀x∈ls,x.name.size<=100000/\x.other.size<=100000:=fun x hx=>zln (hnk.2.2 x hx);have hfine:=zmC hN;have hLL:ze2 its.length ((ofL its ls).map Prod.snd):=fun c hc=>by
  obtain⟨x,hx,rfl⟩:=List.mem_map.1 hc;exact(hfine x hx).1
 have hroom:((2*2^its.length+25*its.length:Nat):Int)<=4000+1:=by
  have:=zoZ (show its.length<=10 by omega);omega
 have HOF:Hid (∀W bk,zfR W bk ls its->zC 15 #[.pointer (some ⟨bk,0,none⟩),.int .i64 4000] W fun e w'=>∃p s b O,e=.returned (.tuple #[.pointer (some ⟨p,0,none⟩),.nilIface])/\zfD W.heap.size w' p s b O its.length 4000 (clF ((ofL its ls).map Prod.snd))/\zB W w'):=fun W bk hc=>zua bk ls its W hc hN (by omega) (by omega) hnm hP2 4000 (by decide) (by decide) hroom;have hKl:((ofL its ls).map Prod.snd).length=(ofL its ls).length:=List.length_map _;rw[<-hKl] at hP2 ⊢;generalize hvr:its.length=vars at *;generalize hK:(ofL its ls).map Prod.snd=K at *;have HLL:=zH hLL;have HO2:=zH (HOF.out _ bc HC2.out);have HRI:Hid (∀W,zeD W ca K->zC 17 #[.int .i64 vars,.slice ca K.length cc] W fun e w'=>∃v,e=.returned v/\w'.ownsRow W.heap.size 48 1 v (zeK vars K (2^vars)).length (zdO (zeK vars K (2^vars)))/\zB W w'):=fun W hc=>zhU vars hv8 K ca cc W hc (by omega) HLL.out;clear hN hnk hnm hfine hroom hvr hLL hKl hK HN HOF HC2;go_wp2_with fail;refine HO2.out.mono ?_;rintro e w3 ⟨p,sp,b,O,rfl,hsol,hb3⟩;have c0:_=some (Value.pointer (some ⟨sp,0,none⟩)):=hsol.blk.cell 0;have HV3:=zH (zgk hsol.space);have HR3:=zH (HRI.out w3 (HCL2.out.below hb3));have HB3:=zH (zT HB2.out hb3);have HSOL:=zH hsol;clear hb3 hsol HO2 HCL2 HRI HB2;go_wp2_with fail;refine HV3.out.mono ?_;rintro e w3' ⟨rfl,rfl⟩;clear HV3 c0;go_wp2_with fail;refine HR3.out.mono ?_;rintro e w4 ⟨v4,rfl,hrow4,hb4⟩;obtain⟨la,lc,rfl,-⟩:=row_form hrow4;have HU4:=zH (zvy hrow4);have hsol4:=HSOL.out.new hb4;have HB4:=zH (zT HB3.out hb4);have HCA:Hid (zxp w4 p sp (clF K).2 (zjA vars K)):=zrT hsol4 (by omega) HLL.out;have hcl:=ziM (show vars<=12 by omega) HLL.out;have hcn:=zo3 (show vars<=12 by omega) HLL.out;have HAW:Hid (∀W,zB w4 W->zC 21 #[.pointer (some ⟨p,0,none⟩)] W fun e w'=>∃a c,e=.returned (.tuple #[.slice a (zee vars (clF K).1 (clF K).2 true vars).length c,.nilIface])/\zbu w' a (zee vars (clF K).1 (clF K).2 true vars)/\zB W w'):=fun W hW=>(zrC (hsol4.new hW) hcl.good hcn (by omega) hcl.has).mono fun e w' ⟨v',h1,h2,h3⟩=>by
  obtain⟨a,c,rfl,-⟩:=row_form h2;exact⟨a,c,h1,zeM h2,h3⟩
 have HNV:Hid (∀W,zB w4 W->zC 22 #[.pointer (some ⟨p,0,none⟩)] W fun e w'=>∃a c,e=.returned (.tuple #[.slice a (zee vars (clF K).1 (clF K).2 false vars).length c,.nilIface])/\zbu w' a (zee vars (clF K).1 (clF K).2 false vars)/\zB W w'):=fun W hW=>(zvs (hsol4.new hW) hcl.good hcn (by omega) hcl.has).mono fun e w' ⟨v',h1,h2,h3⟩=>by
  obtain⟨a,c,rfl,-⟩:=row_form h2;exact⟨a,c,h1,zeM h2,h3⟩
 have HCT:=zH (zpV (show vars<=12 by omega) HLL.out);have HML:=zH (zsO (show vars<=12 by omega) K);have HST:Hid (∀is v,v<vars->((zeK vars K (2^vars)).all fun x=>x.testBit v==is)=zqM vars (clF K).1 (clF K).2 is v):=fun is v hv=>zwj (by omega) HLL.out hv is;have HMEM:Hid (∀x∈zeK vars K (2^vars),x<18446744073709551616):=fun x hx=>by have h1:=(zkx.1 hx).1;have h2:(2:Nat)^vars<=256:=Nat.pow_le_pow_right (n:=2) (by omega) hv8;omega
 clear hrow4 hb4 hsol4 hcl hcn HSOL HB3 HR3 HLL;generalize zeK vars K (2^vars)=L at *;generalize (clF K).2=al at *;generalize (clF K).1=ns at *;generalize zjA vars K=mn at *;have SC:=zH HCA.out.sc;have HCN:=zH HCA.out.cn;clear HCA;go_wp2_with fail;have D0:zB w4 w4.drew:=zF.drew;have D0a:zB w4 (w4.alloc (.cells #[.slice none 0 0] 42)).drew:=(zF.alloc zN _).drew;have k0a:Blk (w4.alloc (.cells #[.slice none 0 0] 42)).drew w4.heap.size 42 #[.slice none 0 0]:=Blk.new w4 42 #[.slice none 0 0];go_cut [12,10] (fun q e wx=>zpW w4 mn q e wx)
 case first =>
  go_region_held3 (fun X=>X.cell? ⟨p,0,none⟩=some (.pointer (some ⟨sp,0,none⟩))/\X.cell? ⟨p,1,none⟩=some (.int .i64 al)) (first|exact SC.out _ D0|exact SC.out _ D0a|exact SC.out _ D1|exact SC.out _ D1a|exact SC.out _ D1s)
   (first
    |((with_reducible refine(HCN.out _ D0).mono ?_);rintro e x1 ⟨na,cn,nc,rfl,hna,hb1⟩;have D1:zB w4 x1:=zT D0 hb1;have D1a:zB w4 (x1.alloc (.cells #[.slice none 0 0] 42)):=zL D1;have D1s:zB w4 (x1.alloc (.cells #[.slice na cn nc] 42)):=zL D1;have hbx:=zrV D1 hna;clear HCN D0 D0a k0a hb1)
    | ((with_reducible refine (HCN.out _ D0a).mono ?_);rintro e x1 ⟨na,cn,nc,rfl,hna,hb1⟩;have D1:zB w4 x1:=zT D0a hb1;have kz:=k0a.below hb1 k0a.lt;have D1s:zB w4 (x1.setCell ⟨w4.heap.size,0,none⟩ (.slice na cn nc)):=D1.setCell (p:=⟨w4.heap.size,0,none⟩) zN _;have hbx:=ztA D1 zN kz hna;have z0:=kz.cell 0;have z1:=kz.frozen 0;clear HCN D0 D0a k0a hb1 kz))
  all_goals
   have HBX:=zH hbx;clear hbx;go_wp2_with fail;go_meet
   case rel=>exact HBX.out
 case rest =>
 obtain⟨qb,na,nn,nc,rfl,rfl,hql,hqc,hn,hb5⟩:=hcut;generalize hwe:wc=w5 at *;clear hwe D0 D0a k0a SC HCN hql;have HT5:=zH (zw6 hn HML.out (HLW.out.below (zT HB4.out hb5)).lb.tab);have HB5:=zH hb5;have HLN:Hid (∀W,zB w4 W->Lb W):=fun W hW=>(HLW.out.below (zT HB4.out hW)).lb;have hmn:mn<=100000000:=HML.out;clear hn hb5 HLW HML;go_wp2_with fail;refine HT5.out.mono ?_;rintro e w6 ⟨rfl,hb6⟩;have hb46:=zT HB5.out hb6;have hb47:=hb46.alloc hb46.size (.cells #[.int .i64 L.length] 3);have HTO:=zH (zqJ L.length (by rw[HCT.out];exact hmn) w6.heap.size 1 _ (HLN.out _ hb47) (by simp));rw[HCT.out] at HTO;have HB47:=zH hb47;clear hb6 hb46 hb47 HT5 HB5 hqc;generalize (⟨(Lib.decDigits mn).toArray⟩:ByteArray)=RS at *;have hLm:L.length<=100000000:=by rw[HCT.out];exact hmn
 rw[<-HCT.out] at HTO;go_wp2_with fail;refine HTO.out.mono ?_;rintro e w7 ⟨rfl,hb7⟩;have HB7:=zH (zT HB47.out hb7);clear hb7 HB47 HTO HCT hmn HLN;go_wp2_with fail;go_loopw [13,14,15] (fun aV bV vV wr=>∃v:Nat,v<=vars/\vV=.int .i64 v/\Two w4 wr aV bV (zee vars ns al true v) (zee vars ns al false v)) (fun _ _ vV _=>vars-(intOf vV).toNat)
 case atStart=>exact⟨0,Nat.zero_le _,rfl,World.ownsRow_nil _ _ _ _,World.ownsRow_nil _ _ _ _,fun k hk=>(by cases hk),HB7.out⟩
 case round =>
  obtain⟨v,hv,rfl,htwo⟩:=hrel;have HT:=zH htwo;have hsz:=htwo.bel.size;obtain⟨qa,qac,rfl,-⟩:=row_form htwo.ra;obtain⟨qbb,qbc,rfl,-⟩:=row_form htwo.rb;have hlA:=zh9 vars ns al true v;have hlB:=zh9 vars ns al false v;clear htwo
  by_cases hlt:v<vars
  ·have hvi:(v:Int)<(vars:Int):=by omega
   have hv0:(0:Int)<=(v:Int):=by omega
   have HSI:=zH (zg7 vars ns al true v);have HSO:=zH (zg7 vars ns al false v);go_wp2_with fail;go_loop [16,17,18] (fun nV oV iV=>∃i:Nat,i<=L.length/\iV=.int .i64 i/\nV=.bool ((L.take i).all fun x=>x.testBit v==true)/\oV=.bool ((L.take i).all fun x=>x.testBit v==false)) (fun _ _ iV=>L.length-(intOf iV).toNat)
   case atStart=>exact⟨0,Nat.zero_le _,rfl,rfl,rfl⟩
   case round =>
    obtain⟨i,hil,rfl,rfl,rfl⟩:=hrel
    by_cases hli:i<L.length
    ·have hii0:(0:Int)<=(i:Int):=by omega
     have hii1:(i:Int)<(L.length:Int):=by omega
     obtain⟨ad,rfl,had,hcell⟩:=HU4.out.below HT.out.bel i hli;obtain⟨ab,ao,asp⟩:=ad;have hx:=HMEM.out _ (zbL (d:=0) hli);have htk:L.take (i+1)=L.take i++[L.getD i 0]:=by rw[List.take_add_one,List.getD_eq_getElem?_getD,List.getElem?_eq_getElem hli];rfl
     have HTK:=zH htk;clear htk;generalize L.getD i 0=x at *;have hs1:=ziI x v hx;have hs0:=zmt x v hx;have HA1:Hid ((L.take (i+1)).all (fun x=>x.testBit v==true)=((L.take i).all (fun x=>x.testBit v==true)&&(x.testBit v==true))):=by show _=_;rw[HTK.out,List.all_append];simp
     have HA0:Hid ((L.take (i+1)).all (fun x=>x.testBit v==false)=((L.take i).all (fun x=>x.testBit v==false)&&(x.testBit v==false))):=by show _=_;rw[HTK.out,List.all_append];simp
     generalize (L.take i).all (fun x=>x.testBit v==true)=A1 at *;generalize (L.take i).all (fun x=>x.testBit v==false)=A0 at *;generalize x.testBit v=tb at *;cases A1<;>cases A0<;>cases tb <;>
     ·go_wp2;go_round
      case rel=>exact⟨i+1,hli,by go_num,by rw[HA1.out];rfl,by rw[HA0.out];rfl⟩
      case measure=>simp[intOf];omega
    ·obtain rfl:i=L.length:=by omega
     rw[List.take_length,HST.out true v hlt,HST.out false v hlt];clear HU4 HMEM HST;cases hIN:zqM vars ns al true v<;>cases hOUT:zqM vars ns al false v
     ·
      rw[hIN] at HSI;rw[hOUT] at HSO;go_wp2;go_roundw
      case rel=>exact⟨v+1,hlt,by go_num,by rw[HSI.out,HSO.out];simpa using HT.out⟩
      case measure=>simp[intOf];omega
     ·
      rw[hIN] at HSI;rw[hOUT] at HSO;go_upto_region 27 with fail;go_wp2_with (at_builtin;refine wpList_append_own_at _ rfl _ _ 47 rfl w4.heap.size 3 i0 (.int .i64 0) 1 8 Tryz.underlying47 hin hz0 hz1 hz2 rfl (by decide) _ _ _ rfl (HT.out.rb.alloc _) ⟨wr.heap.size,0,none⟩ 1 1 [.int .i64 v] rfl rfl ?q4a ?q4b ?q4c ?q4d ?q4e ?_)
      try(case q4a=>exact zaL _ _ _)
      case q4b=>first|exact za4 _|rfl
      case q4c=>unfold maxLen;omega
      case q4d=>omega
      case q4e=>first|omega|(simp;omega)
      intro b9 x9 hown hgrow _ hloc;have HT9:=zH (HT.out.growB hown hgrow (by simpa using hloc));obtain⟨b9a,b9c,rfl,-⟩:=row_form hown;clear hown hgrow hloc HT;go_wp2;go_roundw
      case rel=>exact⟨v+1,hlt,by go_num,by rw[HSI.out,HSO.out];simpa using HT9.out⟩
      case measure=>simp[intOf];omega
     ·
      rw[hIN] at HSI;rw[hOUT] at HSO;go_upto_region 25 with fail;go_wp2_with (at_builtin;refine wpList_append_own_at _ rfl _ _ 47 rfl w4.heap.size 3 i0 (.int .i64 0) 1 8 Tryz.underlying47 hin hz0 hz1 hz2 rfl (by decide) _ _ _ rfl (HT.out.ra.alloc _) ⟨wr.heap.size,0,none⟩ 1 1 [.int .i64 v] rfl rfl ?q3a ?q3b ?q3c ?q3d ?q3e ?_)
      try(case q3a=>exact zaL _ _ _)
      case q3b=>first|exact za4 _|rfl
      case q3c=>unfold maxLen;omega
      case q3d=>omega
      case q3e=>first|omega|(simp;omega)
      intro a8 x8 hown hgrow _ hloc;have HT8:=zH (HT.out.growA hown hgrow (by simpa using hloc));obtain⟨a8a,a8c,rfl,-⟩:=row_form hown;have hs8:=HT8.out.bel.size;clear hown hgrow hloc HT;go_wp2;go_roundw
      case rel=>exact⟨v+1,hlt,by go_num,by rw[HSI.out,HSO.out];simpa using HT8.out⟩
      case measure=>simp[intOf];omega
     ·
      rw[hIN] at HSI;rw[hOUT] at HSO;go_upto_region 25 with fail;go_wp2_with (at_builtin;refine wpList_append_own_at _ rfl _ _ 47 rfl w4.heap.size 3 i0 (.int .i64 0) 1 8 Tryz.underlying47 hin hz0 hz1 hz2 rfl (by decide) _ _ _ rfl (HT.out.ra.alloc _) ⟨wr.heap.size,0,none⟩ 1 1 [.int .i64 v] rfl rfl ?q1a ?q1b ?q1c ?q1d ?q1e ?_)
      try(case q1a=>exact zaL _ _ _)
      case q1b=>first|exact za4 _|rfl
      case q1c=>unfold maxLen;omega
      case q1d=>omega
      case q1e=>first|omega|(simp;omega)
      intro a8 x8 hown hgrow _ hloc;have HT8:=zH (HT.out.growA hown hgrow (by simpa using hloc));obtain⟨a8a,a8c,rfl,-⟩:=row_form hown;have hs8:=HT8.out.bel.size;clear hown hgrow hloc HT;go_upto_region 27 with fail;go_wp2_with (at_builtin;refine wpList_append_own_at _ rfl _ _ 47 rfl w4.heap.size 3 i0 (.int .i64 0) 1 8 Tryz.underlying47 hin hz0 hz1 hz2 rfl (by decide) _ _ _ rfl (HT8.out.rb.alloc _) ⟨x8.heap.size,0,none⟩ 1 1 [.int .i64 v] rfl rfl ?q2a ?q2b ?q2c ?q2d ?q2e ?_)
      try(case q2a=>exact zaL _ _ _)
      case q2b=>first|exact za4 _|rfl
      case q2c=>unfold maxLen;omega
      case q2d=>omega
      case q2e=>first|omega|(simp;omega)
      intro b9 x9 hown hgrow _ hloc;have HT9:=zH (HT8.out.growB hown hgrow (by simpa using hloc));obtain⟨b9a,b9c,rfl,-⟩:=row_form hown;clear hown hgrow hloc HT8;go_wp2;go_roundw
      case rel=>exact⟨v+1,hlt,by go_num,by rw[HSI.out,HSO.out];simpa using HT9.out⟩
      case measure=>simp[intOf];omega
  ·obtain rfl:v=vars:=by omega
   have HA8:=zH (HAW.out wr HT.out.bel);clear HAW HU4 HMEM HST;go_wp2_with fail;refine HA8.out.mono ?_;rintro e w8 ⟨aa,ac,rfl,hia,hb8⟩;have hb48:=zT HT.out.bel hb8;have HN8:=zH (HNV.out w8 hb48);have HIA:=zH hia;have HB8:=zH hb8;clear hia hb8 hb48 HA8 HNV;go_wp2_with fail;refine HN8.out.mono ?_;rintro e w9 ⟨ba,bcc,rfl,hib,hb9⟩;have hbr9:=zT HB8.out hb9;have HS1:Hid (∀W,zB w9 W->zR 23 #[.slice aa (zee v ns al true v).length ac,.slice qa (zee v ns al true v).length qac] W (.bool true)):=fun W hW=>zja _ aa qa ac qac W ((HIA.out.below hb9).below hW) (zeM (zaf HT.out.ra (zT hbr9 hW))) (by omega);have HS2:Hid (∀W,zB w9 W->zR 23 #[.slice ba (zee v ns al false v).length bcc,.slice qbb (zee v ns al false v).length qbc] W (.bool true)):=fun W hW=>zja _ ba qbb bcc qbc W (hib.below hW) (zeM (zaf HT.out.rb (zT hbr9 hW))) (by omega);have HW9:Hid (zB w w9):=HB4.out.trans ((zT HT.out.bel hbr9).mono HB4.out.size);clear hib hb9 hbr9 HN8 HIA HB8 HT HB4;go_wp2_with fail;refine(HS1.out w9 zF).mono ?_;rintro e w10 ⟨rfl,hb10⟩;go_wp2_with fail;refine(HS2.out w10 hb10).mono ?_;rintro e w11 ⟨rfl,hb11⟩;have HF:Hid (zB w w11):=HW9.out.trans ((zT hb10 hb11).mono HW9.out.size);clear hb10 hb11;go_wp2;go_ret;exact⟨rfl,HF.out⟩
theorem sinst_any(s:ByteArray)(w:World)(hw:Lw w)(hF:zdz w)(ad:Addr)(kc:Nat)(hK:zbN w ad kc):zR 3 #[.string s] w (.bool true):=by
 cases h:zfU s with
 |none=>exact zn7 s w hw hF ad kc hK h
 |some r=>exact znt s w hw hF ad kc hK r.1 r.2 h
end Bd
section
open Go.ChangeShapes Go.WideShapes Go.ChangeAt Go.RowKit
theorem own:ownKnob Tryz.prog.godebug=none:=by kernel_rfl
theorem zyh:Tryz.prog.globalNamed "errors.errorType"=some 2:=by kernel_rfl
theorem zvQ:(Tryz.prog.cutTypes.find? (·.1 == "internal/reflectlite.rtype")).map (·.2)=some 362:=by kernel_rfl
theorem zxc:((List.range 513).filter fun t=>Tryz.prog.rowNamed t [101,114,114,111,114])=[31]:=by kernel_rfl
theorem zq9:Tryz.prog.types.size=513:=by kernel_rfl
theorem zur{W:World}{l:List (String × DataW Unit)}(h:laidMetH Tryz.prog l W)(hk:(l.filter fun x=>x.1 == "errors.errorType")=[("errors.errorType",Rows.laid_errors_errorType)]):zov W:=by
 have h2:=h.filter fun x=>x.1 == "errors.errorType";rw[hk] at h2;have h3:laidMet Tryz.prog [] W/\handlesMet Tryz.prog [("errors.errorType",Rows.laid_errors_errorType)] W:=h2;obtain⟨name,u,ty,e1,e2,e3,e4,e5⟩:=h3.2 _ (List.mem_singleton.2 rfl);have en:name=[101,114,114,111,114]:=(Option.some.inj e1).symm;subst en;obtain rfl:=Option.some.inj (zvQ.symm.trans e2);have hm:ty∈(List.range 513).filter fun t=>Tryz.prog.rowNamed t [101,114,114,111,114]:=List.mem_filter.2 ⟨List.mem_range.2 (by rw[<-zq9];exact e3),e4⟩;rw[zxc] at hm;obtain rfl:=List.mem_singleton.1 hm;have hh:typeHandle Tryz.prog 31=.pointer (some ⟨12,31,none⟩):=by kernel_rfl
 rw[hh] at e5;have h6:=World.var?_cell zyh e5 0;unfold zov;simpa using h6
def zdR(cs:Array Value):Obj->Obj
 |.cells _ t frozen=>.cells cs t frozen
 |o=>o
end
section
open Go.ChangeShapes Go.WideShapes Go.ChangeAt Go.RowKit Go.Shelf
theorem zyg:Tryz.prog.globalNamed "internal/strconv.uint64pow10"=some 4:=by kernel_rfl
theorem ztE:(Tryz.prog.globals[4]?).map (·.type)=some 416:=by kernel_rfl
theorem zsn:Tryz.prog.cellsOf 416=20:=by kernel_rfl
theorem zqT:Tryz.prog.cellsOf 165=1:=by kernel_rfl
theorem zx9:Tryz.prog.globalNamed "strconv.ErrSyntax"=some 10:=by kernel_rfl
theorem ztF:(Tryz.prog.globals[10]?).map (·.type)=some 31:=by kernel_rfl
theorem zx8:Tryz.prog.globalNamed "strconv.ErrRange"=some 11:=by kernel_rfl
theorem ztz:(Tryz.prog.globals[11]?).map (·.type)=some 31:=by kernel_rfl
theorem zpK:Tryz.prog.cellsOf 486=1:=by kernel_rfl
theorem zgc:Tryz.prog.cellsOf 9=1:=by kernel_rfl
theorem ztH : "*" ++ "errors.errorString" = "*errors.errorString":=by decide
theorem zxa(u:TypeId)(h:Tryz.prog.typeName? 3 u=some "*errors.errorString"):u=484 :=
 typeName_ptr_named (nm := "errors.errorString") (by rw[ztH];kernel_rfl) (by kernel_rfl) (by decide) u (by rw[ztH];exact h)
theorem zxr{W:World}{l:List (String × DataW Unit)}(h:laidMetH Tryz.prog l W)(hk:(l.filter fun x=>x.1 == "internal/strconv.uint64pow10")=[("internal/strconv.uint64pow10",Lib.tabData .u64 Lib.pow10Tab)]):Lib.TabIs Tryz.prog W "internal/strconv.uint64pow10" .u64 Lib.pow10Tab:=by
 have h2:=h.filter fun x=>x.1 == "internal/strconv.uint64pow10";rw[hk] at h2;have h3:laidMet Tryz.prog [("internal/strconv.uint64pow10",Lib.tabData .u64 Lib.pow10Tab)] W:=h2;exact Lib.tabIs_of_head (rest:=[]) zyg ztE Tryz.underlying416 Tryz.underlying165 zqT zsn h3
theorem zwN{W:World}{l:List (String × DataW Unit)}(h:laidMetH Tryz.prog l W)(hk:(l.filter fun x=>x.1 == "strconv.ErrSyntax")=[("strconv.ErrSyntax",Rows.laid_strconv_ErrSyntax)]):∃ev,W.cell? ⟨10,0,none⟩=some ev/\(ev=.nilIface\/∃te pe,ev=.iface te pe):=by
 have h2:=h.filter fun x=>x.1 == "strconv.ErrSyntax";rw[hk] at h2;have h3:laidMet Tryz.prog [("strconv.ErrSyntax",Rows.laid_strconv_ErrSyntax)] W:=h2;obtain⟨a0,s0,hv0,-,-,-⟩:=laid_sentinel h3 zx9 ztF Tryz.underlying31 zxa Tryz.underlying484 Tryz.underlying486 rfl rfl Tryz.underlying9 zpK zgc;exact⟨_,by have h0:=World.var?_cell zx9 hv0 0;simpa using h0,.inr ⟨_,_,rfl⟩⟩
theorem zw5{W:World}{l:List (String × DataW Unit)}(h:laidMetH Tryz.prog l W)(hk:(l.filter fun x=>x.1 == "strconv.ErrRange")=[("strconv.ErrRange",Rows.laid_strconv_ErrRange)]):∃ev,W.cell? ⟨11,0,none⟩=some ev/\(ev=.nilIface\/∃te pe,ev=.iface te pe):=by
 have h2:=h.filter fun x=>x.1 == "strconv.ErrRange";rw[hk] at h2;have h3:laidMet Tryz.prog [("strconv.ErrRange",Rows.laid_strconv_ErrRange)] W:=h2;obtain⟨a0,s0,hv0,-,-,-⟩:=laid_sentinel h3 zx8 ztz Tryz.underlying31 zxa Tryz.underlying484 Tryz.underlying486 rfl rfl Tryz.underlying9 zpK zgc;exact⟨_,by have h0:=World.var?_cell zx8 hv0 0;simpa using h0,.inr ⟨_,_,rfl⟩⟩
theorem zxy{W:World}(h:W.ShapedOpen Tryz.prog):∃n,W.cell? ⟨5,0,none⟩=some (.int .i64 n) :=
 cell_of_shapedOpen_int (zero:=#[.int .i64 0]) (t:=3) h (of_decide_eq_true (by kernel_rfl)) (by kernel_rfl) rfl (by kernel_rfl) (by kernel_rfl) Tryz.underlying3
theorem zwW{W:World}(h:W.ShapedOpen Tryz.prog):12<=W.heap.size:=by
 obtain⟨o,_,ho,_⟩:=h.2 12 (of_decide_eq_true (by kernel_rfl)) (of_decide_eq_true (by kernel_rfl));have:=(Array.getElem?_eq_some_iff.1 ho).1;omega
theorem zxI{W:World}{l:List (String × DataW Unit)}(h:laidMetH Tryz.prog l W)(hs:W.ShapedOpen Tryz.prog)
  (k1:(l.filter fun x=>x.1 == "internal/strconv.uint64pow10")=[("internal/strconv.uint64pow10",Lib.tabData .u64 Lib.pow10Tab)])
  (k2:(l.filter fun x=>x.1 == "strconv.ErrSyntax")=[("strconv.ErrSyntax",Rows.laid_strconv_ErrSyntax)])
  (k3:(l.filter fun x=>x.1 == "strconv.ErrRange")=[("strconv.ErrRange",Rows.laid_strconv_ErrRange)])
  (k4:(l.filter fun x=>x.1 == "errors.errorType")=[("errors.errorType",Rows.laid_errors_errorType)]):Lb W :=
 ⟨zxy hs,zwN h k2,zw5 h k3,zxr h k1,zur h k4,zwW hs⟩
def zmL:DataW Unit->List Value
 |.lit (.int k z)=>[.int k z]
 |_=>[undef]
def ztv:DataW Unit->List Value
 |.agg l=>l.flatMap zmL
 |d=>zmL d
def zgY:DataW Unit->Array Value
 |.agg l=>(l.flatMap ztv).toArray
 |_=>#[]
end
section
open Go.ChangeShapes Go.WideShapes Go.ChangeAt Go.RowKit Go.Shelf
theorem zv9:Tryz.prog.globalNamed "solspace/solspaceref.Fine"=some 0:=by kernel_rfl
theorem zo1:(Tryz.prog.globals[0]?).map (·.type)=some 96:=by kernel_rfl
theorem zqm:Tryz.prog.cellsOf 3=1:=by kernel_rfl
theorem zm9:Tryz.prog.cellsOf 57=1:=by kernel_rfl
theorem znx:Tryz.prog.cellsOf 96=2:=by kernel_rfl
theorem ztG{W:World}{l:List (String × DataW Unit)}(h:laidMetH Tryz.prog l W)(hk:(l.filter fun x=>x.1 == "solspace/solspaceref.Fine")=[("solspace/solspaceref.Fine",Rows.laid_solspace_solspaceref_Fine)]):zdz W:=by
 have h2:=h.filter fun x=>x.1 == "solspace/solspaceref.Fine";rw[hk] at h2;have h3:laidMet Tryz.prog [("solspace/solspaceref.Fine",Rows.laid_solspace_solspaceref_Fine)] W:=h2;obtain⟨ps,⟨g',t',cs,fuel,p,q,hg',ht',hvar,hd,_,_⟩,_⟩:=h3;obtain rfl:=Option.some.inj (zv9.symm.trans hg');obtain rfl:=Option.some.inj (zo1.symm.trans ht');obtain⟨y0,y1,n,hx,hl,g0,g1⟩:=trod_struct2 Tryz.underlying96 hd;rw[znx] at hl;obtain⟨cs⟩:=cs;simp only at hl g0 g1
 match cs,hl with
 |[v0,v1],_ =>
  simp[zm9,zqm] at g0 g1;obtain⟨z0,e0,x0,-⟩:=DataW.trod_int Tryz.underlying57 g0;obtain⟨z1,e1,x1,-⟩:=DataW.trod_int Tryz.underlying3 g1;simp at e0 e1;subst e0 e1 x0 x1;simp[Rows.laid_solspace_solspaceref_Fine] at hx;obtain⟨⟨rfl,rfl⟩,-⟩:=hx;have h0:W.cell? ⟨0,0,none⟩=some (.int .i64 0):=by have:=World.var?_cell zv9 hvar 0;simpa using this
  exact⟨h0,by have:=World.var?_cell zv9 hvar 1;simpa using this,World.block_lt_of_cell? _ _ h0⟩
end
end Go.Proofs.YtiihalknffbjpaaGreatDoor
