import Derived.Test.YtoffdbflfikcoaaGreatDoorb4
import Derived.Test.YtoffdbflfikcoaaGreatDoorCards
import Derived.Test.YtoffdbflfikcoaaGreatDoorTie
import Derived.Deep.DeepHandedRow
import Derived.Stop.LaidErr
import Derived.Lib.SmallJoins
open Go.Proofs.Tryz
namespace Go.Proofs.YtoffdbflfikcoaaGreatDoor
set_option maxHeartbeats 8000000
set_option maxRecDepth 100000
namespace Bd
open Go.RowKit Go.Deep Sv Lib Go.Sort
structure Two(w W:World)(a b:Value)(xs ys:List Int):Prop where
 ra:W.ownsRow w 3 1 a xs.length (Go.Proofs.YtoffdbflfikcoaaGreatDoor.icells xs)
 rb:W.ownsRow w 3 1 b ys.length (Go.Proofs.YtoffdbflfikcoaaGreatDoor.icells ys)
 ap:∀k,a.ownBlock=some k->b.ownBlock≠some k
 bel:zB w W
theorem zd3{B:Nat}{w w':World}{t:TypeId}{size:Nat}{v:Value}{n:Nat}{cs:List Value}{r:Option Nat}(h:w.ownsRow B t size v n cs)(hg:w.grownBy w' r)(hr:∀k,v.ownBlock=some k->r≠some k):w'.ownsRow B t size v n cs:=by
 refine⟨h.1,?_⟩;rcases h.2 with h2|⟨g,j,o,hv,hB,hh,q⟩
 ·exact Or.inl h2
 ·exact Or.inr ⟨g,j,o,hv,hB,(hg.block g (zrg.1 hh).1 (fun e=>hr g (by rw[hv];rfl) e.symm)).trans hh,q⟩
theorem Two.growA{w W W':World}{a a' b:Value}{xs ys:List Int}{x:Int}{o:Obj}(h:Two w W a b xs ys)(hown:W'.ownsRow w 3 1 a' (xs.length+1) (Go.Proofs.YtoffdbflfikcoaaGreatDoor.icells xs++[.int .i64 x]))(hg:(W.alloc o).grownBy W' a.ownBlock)(hloc:a'.ownBlock=a.ownBlock\/a'.ownBlock=some (W.alloc o).heap.size):Two w W' a' b (xs++[x]) ys:=by
 refine⟨by rw[zf4,Ze];exact hown,zd3 (h.rb.alloc o) hg (fun k hk e=>h.ap k e hk),fun k hk=>?_,(h.bel.alloc h.bel.size o).grown hg (by simp;have:=h.bel.size;omega) (fun k hk=>(h.ra.lt k hk).1)⟩;rcases hloc with e|e
 ·exact h.ap k (e▸hk)
 ·rw[e] at hk;intro hb;have h1:=(h.rb.lt k hb).2;have h2:(W.alloc o).heap.size=k:=zru hk;simp at h2;omega
theorem Two.growB{w W W':World}{a b b':Value}{xs ys:List Int}{x:Int}{o:Obj}(h:Two w W a b xs ys)(hown:W'.ownsRow w 3 1 b' (ys.length+1) (Go.Proofs.YtoffdbflfikcoaaGreatDoor.icells ys++[.int .i64 x]))(hg:(W.alloc o).grownBy W' b.ownBlock)(hloc:b'.ownBlock=b.ownBlock\/b'.ownBlock=some (W.alloc o).heap.size):Two w W' a b' xs (ys++[x]):=by
 refine⟨zd3 (h.ra.alloc o) hg (fun k hk e=>h.ap k hk e),by rw[zf4,Ze];exact hown,fun k hk=>?_,(h.bel.alloc h.bel.size o).grown hg (by simp;have:=h.bel.size;omega) (fun k hk=>(h.rb.lt k hk).1)⟩;rcases hloc with e|e
 ·rw[e];exact h.ap k hk
 ·rw[e];intro hb;have h1:=(h.ra.lt k hk).2;have h2:(W.alloc o).heap.size=k:=zru hb;simp at h2;omega
theorem zqe(s:ByteArray)(w:World)(hw:Lw w)(hF:yA w)(ad:Addr)(kc:Nat)(hK:xe w ad kc)(h:ZN s=none):zR 3 #[s] w (.bool true):=by
 have j:=ze4 s _ hw hF ad kc hK;rw[h] at j;have HB:Hid (zR 4 #[s] w (.tuple #[.pointer none,.slice none 0 0,false])):=j;clear j hw hF hK h;go_enter func3,ntmps3;go_wp2_with fail;refine HB.out.mono ?_;rintro e w1 ⟨rfl,o⟩;have HF:=zH o;clear o HB;go_wp2;go_ret;exact⟨rfl,HF.out⟩
theorem zjf(s:ByteArray)(w:World)(hw:Lw w)(hF:yA w)(ad:Addr)(kc:Nat)(hK:xe w ad kc)(ls:List Ln)(its:List It)(h:ZN s=some (ls,its)):zR 3 #[.string s] w (.bool true):=by
 obtain⟨i0,aw,ax,ay,az⟩:=info_parts ZO;have aA:=ze4 s _ hw hF ad kc hK;rw[h] at aA;have HB:Hid (zC 4 #[.string s] w fun e w'=>∃bc v,e=.returned (.tuple #[.pointer (some ⟨bc,0,none⟩),v,true])/\Zj w' bc ls its/\RLs w' v ls/\zB w w'):=aA;have aD:=zH hw;have hN:=zhM h;have HN:=zH hN;clear aA hw hF hK h hN;go_enter func3,ntmps3;go_wp2_with fail;refine HB.out.mono ?_;rintro e w1 ⟨bc,v,rfl,bp,aS,M⟩;obtain⟨va,vc,rfl⟩:∃va vc,v=.slice va ls.length vc:=by obtain⟨vs,_,h2⟩:=aS;obtain⟨a,c,e,_⟩:=h2.form;exact⟨a,c,e⟩
 have b2:=zH bp;have aY:=zH M;have ar:=zH (zg9 ls its _ 8 w1 aS HN.out);clear bp aS M HB;go_wp2_with fail;refine ar.out.mono ?_;rintro e w2 ⟨ca,cc,rfl,an,aI⟩;have af:=zH an;have aB:=zH (zT aY.out aI);have b3:=zH (b2.out.below aI zN);clear an aI ar b2 aY
 by_cases hP:¬((ofL its ls).length<=200/\its.length<=8)
 ·have hd:(decide ((ofL its ls).length<=200)&&decide (its.length<=8))=false:=by
   rw[Bool.and_eq_false_iff]
   by_cases q:(ofL its ls).length<=200
   ·right;exact zf5 (fun e=>hP ⟨q,e⟩)
   ·left;exact zf5 q
  rw[hd];clear HN;go_wp2;go_ret;exact⟨rfl,aB.out⟩
 obtain⟨aH,aT⟩:=Decidable.not_not.1 hP;clear hP;rw[zq9 aH,zq9 aT];have hN:=HN.out;have bt:=J9 hN;have bu:∀x∈ls,x.name.size<=100000/\x.other.size<=100000:=fun x hx=>zqf (bt.2.2 x hx);have Z:=zfE hN;have bm:xq its.length ((ofL its ls).map Prod.snd):=fun c hc=>by
  obtain⟨x,hx,rfl⟩:=zrA.1 hc;exact(Z x hx).1
 have a0:((2*2^its.length+25*its.length:Nat):Int)<=4000+1:=by
  have:=XQ (show its.length<=10 by omega);omega
 have bb:Hid (∀W bk,Zj W bk ls its->zC 6 #[.pointer (some ⟨bk,0,none⟩),(4000:Int)] W fun e w'=>∃p s b O,e=.returned (.tuple #[.pointer (some ⟨p,0,none⟩),.nilIface])/\Zo W.heap.size w' p s b O its.length 4000 (clF ((ofL its ls).map Prod.snd))/\zB W w'):=fun W bk hc=>zkM bk ls its W hc hN (by omega) (by omega) bu aH 4000 (by decide) (by decide) a0;have bl:((ofL its ls).map Prod.snd).length=(ofL its ls).length:=zrs _;rw[<-bl] at aH ⊢;generalize bQ:its.length=vars at *;generalize hK:(ofL its ls).map Prod.snd=K at *;have a1:=zH bm;have b8:=zH (bb.out _ bc b3.out);have be:Hid (∀W,xX W ca K->zC 8 #[vars,.slice ca K.length cc] W fun e w'=>∃v,e=.returned v/\w'.ownsRow W 48 1 v (qM vars K (2^vars)).length (Z7 (qM vars K (2^vars)))/\zB W w'):=fun W hc=>ziv vars aT K ca cc W hc (by omega) a1.out;clear hN bt bu Z a0 bQ bm bl hK HN bb b3;go_wp2_with fail;refine b8.out.mono ?_;rintro e w3 ⟨p,sp,b,O,rfl,U,aJ⟩;have c0:_=some (Value.pointer (some sp)):=U.blk.cell 0;have bh:=zH (Ja U.space);have bd:=zH (be.out w3 (af.out.below aJ));have aZ:=zH (zT aB.out aJ);have ai:=zH U;clear aJ U b8 af be aB;go_wp2_with fail;refine bh.out.mono ?_;rintro e cd ⟨rfl,rfl⟩;clear bh c0;go_wp2_with fail;refine bd.out.mono ?_;rintro e w4 ⟨v4,rfl,C,aK⟩;obtain⟨la,lc,rfl,-⟩:=row_form C;have aG:=zH (zof C);have y:=ai.out.new aK;have a9:=zH (zT aZ.out aK);have aC:Hid (zej w4 p sp (clF K).2 (QT vars K)):=zlK y (by omega) a1.out;have am:=JU (show vars<=12 by omega) a1.out;have aP:=zfC (show vars<=12 by omega) a1.out;have aX:Hid (∀W,zB w4 W->zC 12 #[.pointer (some ⟨p,0,none⟩)] W fun e w'=>∃a c,e=.returned (.tuple #[.slice a (qF vars (clF K).1 (clF K).2 true vars).length c,.nilIface])/\qO w' a (qF vars (clF K).1 (clF K).2 true vars)/\zB W w'):=fun W hW=>(zqs (y.new hW) am.good aP (by omega) am.has).mono fun e w' ⟨v',h1,h2,h3⟩=>by
  obtain⟨a,c,rfl,-⟩:=row_form h2;exact⟨a,c,h1,Xr h2,h3⟩
 have b7:Hid (∀W,zB w4 W->zC 13 #[.pointer (some ⟨p,0,none⟩)] W fun e w'=>∃a c,e=.returned (.tuple #[.slice a (qF vars (clF K).1 (clF K).2 false vars).length c,.nilIface])/\qO w' a (qF vars (clF K).1 (clF K).2 false vars)/\zB W w'):=fun W hW=>(ziN (y.new hW) am.good aP (by omega) am.has).mono fun e w' ⟨v',h1,h2,h3⟩=>by
  obtain⟨a,c,rfl,-⟩:=row_form h2;exact⟨a,c,h1,Xr h2,h3⟩
 have ah:=zH (zon (show vars<=12 by omega) a1.out);have aE:=zH (zkp (show vars<=12 by omega) K);have au:Hid (∀is v,v<vars->((qM vars K (2^vars)).all fun x=>x.testBit v==is)=ZT vars (clF K).1 (clF K).2 is v):=fun is v hv=>znh (by omega) a1.out hv is;have a2:Hid (∀x∈qM vars K (2^vars),x<18446744073709551616):=fun x hx=>by have h1:=(zaS.1 hx).1;have h2:(2:Nat)^vars<=256:=zrt (n:=2) (by omega) aT;omega
 clear C aK y am aP ai aZ bd a1;generalize qM vars K (2^vars)=L at *;generalize (clF K).2=al at *;generalize (clF K).1=ns at *;generalize QT vars K=mn at *;have SC:=zH aC.out.sc;have ag:=zH aC.out.cn;clear aC;go_wp2_with fail;have D0:zB w4 w4.drew:=zF.drew;have a7:zB w4 (w4.alloc (.cells #[.slice none 0 0] 42)).drew:=(zF.alloc zN _).drew;have aq:Blk (w4.alloc (.cells #[.slice none 0 0] 42)).drew w4.heap.size 42 #[.slice none 0 0]:=Blk.new w4 42 #[.slice none 0 0];go_cut [12,10] (fun q e wx=>zbo w4 mn q e wx)
 case first =>
  go_region_held3 (fun X=>X.cell? ⟨p,0,none⟩=some (.pointer (some sp))/\X.cell? ⟨p,1,none⟩=some (.int .i64 al)) (first|exact SC.out _ D0|exact SC.out _ a7|exact SC.out _ D1|exact SC.out _ bB|exact SC.out _ aU)
   (first
    |((with_reducible refine(ag.out _ D0).mono ?_);rintro e x1 ⟨na,cn,nc,rfl,aR,M⟩;have D1:zB w4 x1:=zT D0 M;have bB:zB w4 (x1.alloc (.cells #[.slice none 0 0] 42)):=zL D1;have aU:zB w4 (x1.alloc (.cells #[.slice na cn nc] 42)):=zL D1;have aO:=zhX D1 aR;clear ag D0 a7 aq M)
    | ((with_reducible refine (ag.out _ a7).mono ?_);rintro e x1 ⟨na,cn,nc,rfl,aR,M⟩;have D1:zB w4 x1:=zT a7 M;have kz:=aq.below M aq.lt;have aU:zB w4 (x1.setCell w4 (.slice na cn nc)):=D1.setCell (p:=w4) zN _;have aO:=zk2 D1 zN kz aR;have z0:=kz.cell 0;have z1:=kz.frozen 0;clear ag D0 a7 aq M kz))
  all_goals
   have bF:=zH aO;clear aO;go_wp2_with fail;go_meet
   case rel=>exact bF.out
 case rest =>
 obtain⟨qb,na,nn,nc,rfl,rfl,bO,bN,hn,aL⟩:=hcut;generalize bR:wc=w5 at *;clear bR D0 a7 aq SC ag bO;have bf:=zH (zoB hn aE.out (aD.out.below (zT a9.out aL)).lb.tab);have b0:=zH aL;have b5:Hid (∀W,zB w4 W->Lb W):=fun W hW=>(aD.out.below (zT a9.out hW)).lb;have aQ:mn<=100000000:=aE.out;clear hn aL aD aE;go_wp2_with fail;refine bf.out.mono ?_;rintro e w6 ⟨rfl,bn⟩;have a5:=zT b0.out bn;have a6:=a5.alloc a5.size (.cells #[L.length] 3);have av:=zH (zqk L.length (by rw[ah.out];exact aQ) w6.heap.size 1 _ (b5.out _ a6) (by simp));rw[ah.out] at av;have ae:=zH a6;clear bn a5 a6 bf b0 bN;generalize (⟨(Lib.decDigits mn).toArray⟩:ByteArray)=RS at *;have bW:L.length<=100000000:=by rw[ah.out];exact aQ
 rw[<-ah.out] at av;go_wp2_with fail;refine av.out.mono ?_;rintro e w7 ⟨rfl,bo⟩;have bE:=zH (zT ae.out bo);clear bo ae av ah aQ b5;go_wp2_with fail;go_loopw [13,14,15] (fun aV bV vV wr=>∃v:Nat,v<=vars/\vV=.int .i64 v/\Two w4 wr aV bV (qF vars ns al true v) (qF vars ns al false v)) (fun _ _ vV _=>vars-(intOf vV).toNat)
 case atStart=>exact⟨0,zf6 _,rfl,zrp _ _ _ _,zrp _ _ _ _,fun k hk=>(by cases hk),bE.out⟩
 case round =>
  obtain⟨v,hv,rfl,J⟩:=hrel;have HT:=zH J;have c8:=J.bel.size;obtain⟨qa,bw,rfl,-⟩:=row_form J.ra;obtain⟨bz,bA,rfl,-⟩:=row_form J.rb;have bZ:=zat vars ns al true v;have c5:=zat vars ns al false v;clear J
  by_cases hlt:v<vars
  ·have cb:(v:Int)<(vars:Int):=by omega
   have c9:(0:Int)<=(v:Int):=by omega
   have V:=zH (zbY vars ns al true v);have Y:=zH (zbY vars ns al false v);go_wp2_with fail;go_loop [16,17,18] (fun nV oV iV=>∃i:Nat,i<=L.length/\iV=.int .i64 i/\nV=.bool ((L.take i).all fun x=>x.testBit v==true)/\oV=.bool ((L.take i).all fun x=>x.testBit v==false)) (fun _ _ iV=>L.length-(intOf iV).toNat)
   case atStart=>exact⟨0,zf6 _,rfl,rfl,rfl⟩
   case round =>
    obtain⟨i,bY,rfl,rfl,rfl⟩:=hrel
    by_cases hli:i<L.length
    ·have bL:(0:Int)<=(i:Int):=by omega
     have bM:(i:Int)<(L.length:Int):=by omega
     obtain⟨ad,rfl,bX,bq⟩:=aG.out.below HT.out.bel i hli;obtain⟨ab,ao,bU⟩:=ad;have hx:=a2.out _ (Zk (d:=0) hli);have bv:L.take (i+1)=L.take i++[L.getD i 0]:=by rw[zs8,zc0,zc5 hli];rfl
     have bg:=zH bv;clear bv;generalize L.getD i 0=x at *;have c7:=zaU x v hx;have c6:=zgv x v hx;have bD:Hid ((L.take (i+1)).all (fun x=>x.testBit v==true)=((L.take i).all (fun x=>x.testBit v==true)&&(x.testBit v==true))):=by show _=_;rw[bg.out,List.all_append];simp
     have bC:Hid ((L.take (i+1)).all (fun x=>x.testBit v==false)=((L.take i).all (fun x=>x.testBit v==false)&&(x.testBit v==false))):=by show _=_;rw[bg.out,List.all_append];simp
     generalize (L.take i).all (fun x=>x.testBit v==true)=A1 at *;generalize (L.take i).all (fun x=>x.testBit v==false)=A0 at *;generalize x.testBit v=tb at *;cases A1<;>cases A0<;>cases tb <;>
     ·go_wp2;go_round
      case rel=>exact⟨i+1,hli,by go_num,by rw[bD.out];rfl,by rw[bC.out];rfl⟩
      case measure=>simp[intOf];omega
    ·obtain rfl:i=L.length:=by omega
     rw[zrC,au.out true v hlt,au.out false v hlt];clear aG a2 au;cases hIN:ZT vars ns al true v<;>cases hOUT:ZT vars ns al false v
     ·
      rw[hIN] at V;rw[hOUT] at Y;go_wp2;go_roundw
      case rel=>exact⟨v+1,hlt,by go_num,by rw[V.out,Y.out];simpa using HT.out⟩
      case measure=>simp[intOf];omega
     ·
      rw[hIN] at V;rw[hOUT] at Y;go_upto_region 27 with fail;go_wp2_with (at_builtin;refine wpList_append_own_at _ rfl _ _ 47 rfl w4.heap.size 3 i0 (.int .i64 0) 1 8 zrq aw ax ay az rfl (by decide) _ _ _ rfl (HT.out.rb.alloc _) wr.heap.size 1 1 [.int .i64 v] rfl rfl ?q4a ?q4b ?q4c ?q4d ?q4e ?_)
      try(case q4a=>exact yI _ _ _)
      case q4b=>first|exact yq _|rfl
      case q4c=>unfold maxLen;omega
      case q4d=>omega
      case q4e=>first|omega|(simp;omega)
      intro b9 x9 o j _ u;have aF:=zH (HT.out.growB o j (by simpa using u));obtain⟨bJ,bK,rfl,-⟩:=row_form o;clear o j u HT;go_wp2;go_roundw
      case rel=>exact⟨v+1,hlt,by go_num,by rw[V.out,Y.out];simpa using aF.out⟩
      case measure=>simp[intOf];omega
     ·
      rw[hIN] at V;rw[hOUT] at Y;go_upto_region 25 with fail;go_wp2_with (at_builtin;refine wpList_append_own_at _ rfl _ _ 47 rfl w4.heap.size 3 i0 (.int .i64 0) 1 8 zrq aw ax ay az rfl (by decide) _ _ _ rfl (HT.out.ra.alloc _) wr.heap.size 1 1 [.int .i64 v] rfl rfl ?q3a ?q3b ?q3c ?q3d ?q3e ?_)
      try(case q3a=>exact yI _ _ _)
      case q3b=>first|exact yq _|rfl
      case q3c=>unfold maxLen;omega
      case q3d=>omega
      case q3e=>first|omega|(simp;omega)
      intro a8 x8 o j _ u;have a3:=zH (HT.out.growA o j (by simpa using u));obtain⟨bH,bI,rfl,-⟩:=row_form o;have bP:=a3.out.bel.size;clear o j u HT;go_wp2;go_roundw
      case rel=>exact⟨v+1,hlt,by go_num,by rw[V.out,Y.out];simpa using a3.out⟩
      case measure=>simp[intOf];omega
     ·
      rw[hIN] at V;rw[hOUT] at Y;go_upto_region 25 with fail;go_wp2_with (at_builtin;refine wpList_append_own_at _ rfl _ _ 47 rfl w4.heap.size 3 i0 (.int .i64 0) 1 8 zrq aw ax ay az rfl (by decide) _ _ _ rfl (HT.out.ra.alloc _) wr.heap.size 1 1 [.int .i64 v] rfl rfl ?q1a ?q1b ?q1c ?q1d ?q1e ?_)
      try(case q1a=>exact yI _ _ _)
      case q1b=>first|exact yq _|rfl
      case q1c=>unfold maxLen;omega
      case q1d=>omega
      case q1e=>first|omega|(simp;omega)
      intro a8 x8 o j _ u;have a3:=zH (HT.out.growA o j (by simpa using u));obtain⟨bH,bI,rfl,-⟩:=row_form o;have bP:=a3.out.bel.size;clear o j u HT;go_upto_region 27 with fail;go_wp2_with (at_builtin;refine wpList_append_own_at _ rfl _ _ 47 rfl w4.heap.size 3 i0 (.int .i64 0) 1 8 zrq aw ax ay az rfl (by decide) _ _ _ rfl (a3.out.rb.alloc _) x8.heap.size 1 1 [.int .i64 v] rfl rfl ?q2a ?q2b ?q2c ?q2d ?q2e ?_)
      try(case q2a=>exact yI _ _ _)
      case q2b=>first|exact yq _|rfl
      case q2c=>unfold maxLen;omega
      case q2d=>omega
      case q2e=>first|omega|(simp;omega)
      intro b9 x9 o j _ u;have aF:=zH (a3.out.growB o j (by simpa using u));obtain⟨bJ,bK,rfl,-⟩:=row_form o;clear o j u a3;go_wp2;go_roundw
      case rel=>exact⟨v+1,hlt,by go_num,by rw[V.out,Y.out];simpa using aF.out⟩
      case measure=>simp[intOf];omega
  ·obtain rfl:v=vars:=by omega
   have aW:=zH (aX.out wr HT.out.bel);clear aX aG a2 au;go_wp2_with fail;refine aW.out.mono ?_;rintro e w8 ⟨aa,ac,rfl,br,aM⟩;have ak:=zT HT.out.bel aM;have b6:=zH (b7.out w8 ak);have b4:=zH br;have b1:=zH aM;clear br aM ak aW b7;go_wp2_with fail;refine b6.out.mono ?_;rintro e w9 ⟨ba,bj,rfl,bs,aN⟩;have R:=zT b1.out aN;have ar:Hid (∀W,zB w9 W->zR 14 #[.slice aa (qF v ns al true v).length ac,.slice qa (qF v ns al true v).length bw] W (.bool true)):=fun W hW=>zgq _ aa qa ac bw W ((b4.out.below aN).below hW) (Xr (zA HT.out.ra (zT R hW))) (by omega);have bG:Hid (∀W,zB w9 W->zR 14 #[.slice ba (qF v ns al false v).length bj,.slice bz (qF v ns al false v).length bA] W (.bool true)):=fun W hW=>zgq _ ba bz bj bA W (bs.below hW) (Xr (zA HT.out.rb (zT R hW))) (by omega);have bi:Hid (zB w w9):=a9.out.trans ((zT HT.out.bel R).mono a9.out.size);clear bs aN R b6 b4 b1 HT a9;go_wp2_with fail;refine(ar.out w9 zF).mono ?_;rintro e bS ⟨rfl,a4⟩;go_wp2_with fail;refine(bG.out bS a4).mono ?_;rintro e bT ⟨rfl,aj⟩;have HF:Hid (zB w bT):=bi.out.trans ((zT a4 aj).mono bi.out.size);clear a4 aj;go_wp2;go_ret;exact⟨rfl,HF.out⟩
theorem sinst_any(s:ByteArray)(w:World)(hw:Lw w)(hF:yA w)(ad:Addr)(kc:Nat)(hK:xe w ad kc):zR 3 #[s] w (.bool true):=by
 cases h:ZN s with
 |none=>exact zqe s w hw hF ad kc hK h
 |some r=>exact zjf s w hw hF ad kc hK r.1 r.2 h
end Bd
section
open Go.ChangeShapes Go.WideShapes Go.ChangeAt Go.RowKit
theorem own:ownKnob prog.godebug=none:=by kernel_rfl
theorem zji:prog.globalNamed "errors.errorType"=some 3:=by kernel_rfl
theorem zpJ:(prog.cutTypes.find? (·.1 == "internal/reflectlite.rtype")).map (·.2)=some 288:=by kernel_rfl
theorem ziJ:((List.range 404).filter fun t=>prog.rowNamed t [101,114,114,111,114])=[31]:=by kernel_rfl
theorem zlJ:prog.types.size=404:=by kernel_rfl
theorem zp7{W:World}{l:List (String × DataW Unit)}(h:laidMetH prog l W)(hk:(l.filter fun x=>x.1 == "errors.errorType")=[("errors.errorType",Rows.laid_errors_errorType)]):ZK W:=by
 have h2:=h.filter fun x=>x.1 == "errors.errorType";rw[hk] at h2;have h3:laidMet prog [] W/\handlesMet prog [("errors.errorType",Rows.laid_errors_errorType)] W:=h2;obtain⟨name,u,ty,e1,e2,e3,e4,e5⟩:=h3.2 _ (zra.2 rfl);have en:name=[101,114,114,111,114]:=(zru e1).symm;subst en;obtain rfl:=zru (zpJ.symm.trans e2);have hm:ty∈(List.range 404).filter fun t=>prog.rowNamed t [101,114,114,111,114]:=zr8.2 ⟨zsa.2 (by rw[<-zlJ];exact e3),e4⟩;rw[ziJ] at hm;obtain rfl:=zra.1 hm;have hh:typeHandle prog 31=.pointer (some ⟨12,31,none⟩):=by kernel_rfl
 rw[hh] at e5;have h6:=ztp zji e5 0;unfold ZK;simpa using h6
def Z6(cs:Array Value):Obj->Obj
 |.cells _ t frozen=>.cells cs t frozen
 |o=>o
end
section
open Go.ChangeShapes Go.WideShapes Go.ChangeAt Go.RowKit Go.Shelf
theorem znG:prog.globalNamed "internal/strconv.uint64pow10"=some 4:=by kernel_rfl
theorem zkE:(prog.globals[4]?).map (·.type)=some 270:=by kernel_rfl
theorem zjx:prog.cellsOf 270=20:=by kernel_rfl
theorem zmn:prog.cellsOf 82=1:=by kernel_rfl
theorem zft:prog.globalNamed "strconv.ErrSyntax"=some 10:=by kernel_rfl
theorem zmN:(prog.globals[10]?).map (·.type)=some 31:=by kernel_rfl
theorem zdC:prog.globalNamed "strconv.ErrRange"=some 11:=by kernel_rfl
theorem zl5:(prog.globals[11]?).map (·.type)=some 31:=by kernel_rfl
theorem zcw:prog.cellsOf 375=1:=by kernel_rfl
theorem JK:prog.cellsOf 9=1:=by kernel_rfl
theorem zdg : "*" ++ "errors.errorString" = "*errors.errorString":=by decide
theorem zfh(u:TypeId)(h:prog.typeName? 3 u=some "*errors.errorString"):u=373 :=
 typeName_ptr_named (nm := "errors.errorString") (by rw[zdg];kernel_rfl) (by kernel_rfl) (by decide) u (by rw[zdg];exact h)
theorem zlq{W:World}{l:List (String × DataW Unit)}(h:laidMetH prog l W)(hk:(l.filter fun x=>x.1 == "internal/strconv.uint64pow10")=[("internal/strconv.uint64pow10",Lib.tabData .u64 Lib.pow10Tab)]):Lib.TabIs prog W "internal/strconv.uint64pow10" .u64 Lib.pow10Tab:=by
 have h2:=h.filter fun x=>x.1 == "internal/strconv.uint64pow10";rw[hk] at h2;have h3:laidMet prog [("internal/strconv.uint64pow10",Lib.tabData .u64 Lib.pow10Tab)] W:=h2;exact Lib.tabIs_of_head (rest:=[]) znG zkE ztz ztr zmn zjx h3
theorem zl4{W:World}{l:List (String × DataW Unit)}(h:laidMetH prog l W)(hk:(l.filter fun x=>x.1 == "strconv.ErrSyntax")=[("strconv.ErrSyntax",Rows.laid_strconv_ErrSyntax)]):∃ev,W.cell? ⟨10,0,none⟩=some ev/\(ev=.nilIface\/∃te pe,ev=.iface te pe):=by
 have h2:=h.filter fun x=>x.1 == "strconv.ErrSyntax";rw[hk] at h2;have h3:laidMet prog [("strconv.ErrSyntax",Rows.laid_strconv_ErrSyntax)] W:=h2;obtain⟨a0,s0,j,-,-,-⟩:=laid_sentinel h3 zft zmN underlying31 zfh underlying373 underlying375 rfl rfl zrf zcw JK;exact⟨_,by have h0:=ztp zft j 0;simpa using h0,.inr ⟨_,_,rfl⟩⟩
theorem znA{W:World}{l:List (String × DataW Unit)}(h:laidMetH prog l W)(hk:(l.filter fun x=>x.1 == "strconv.ErrRange")=[("strconv.ErrRange",Rows.laid_strconv_ErrRange)]):∃ev,W.cell? ⟨11,0,none⟩=some ev/\(ev=.nilIface\/∃te pe,ev=.iface te pe):=by
 have h2:=h.filter fun x=>x.1 == "strconv.ErrRange";rw[hk] at h2;have h3:laidMet prog [("strconv.ErrRange",Rows.laid_strconv_ErrRange)] W:=h2;obtain⟨a0,s0,j,-,-,-⟩:=laid_sentinel h3 zdC zl5 underlying31 zfh underlying373 underlying375 rfl rfl zrf zcw JK;exact⟨_,by have h0:=ztp zdC j 0;simpa using h0,.inr ⟨_,_,rfl⟩⟩
theorem zmJ{W:World}(h:W.ShapedOpen prog):∃n,W.cell? ⟨5,0,none⟩=some (.int .i64 n) :=
 cell_of_shapedOpen_int (zero:=#[.int .i64 0]) (t:=3) h (zrZ (by kernel_rfl)) (by kernel_rfl) rfl (by kernel_rfl) (by kernel_rfl) zrn
theorem zhg{W:World}(h:W.ShapedOpen prog):12<=W.heap.size:=by
 obtain⟨o,_,ho,_⟩:=h.2 12 (zrZ (by kernel_rfl)) (zrZ (by kernel_rfl));have:=(zrg.1 ho).1;omega
theorem zmq{W:World}{l:List (String × DataW Unit)}(h:laidMetH prog l W)(hs:W.ShapedOpen prog)
  (k1:(l.filter fun x=>x.1 == "internal/strconv.uint64pow10")=[("internal/strconv.uint64pow10",Lib.tabData .u64 Lib.pow10Tab)])
  (k2:(l.filter fun x=>x.1 == "strconv.ErrSyntax")=[("strconv.ErrSyntax",Rows.laid_strconv_ErrSyntax)])
  (k3:(l.filter fun x=>x.1 == "strconv.ErrRange")=[("strconv.ErrRange",Rows.laid_strconv_ErrRange)])
  (k4:(l.filter fun x=>x.1 == "errors.errorType")=[("errors.errorType",Rows.laid_errors_errorType)]):Lb W :=
 ⟨zmJ hs,zl4 h k2,znA h k3,zlq h k1,zp7 h k4,zhg hs⟩
def zgR:DataW Unit->List Value
 |.lit (.int k z)=>[.int k z]
 |_=>[undef]
def zkQ:DataW Unit->List Value
 |.agg l=>l.flatMap zgR
 |d=>zgR d
def X9:DataW Unit->Array Value
 |.agg l=>(l.flatMap zkQ).toArray
 |_=>#[]
end
section
open Go.ChangeShapes Go.WideShapes Go.ChangeAt Go.RowKit Go.Shelf
theorem zag:prog.globalNamed "solspace/solspaceref.Fine"=some 0:=by kernel_rfl
theorem zk3:(prog.globals[0]?).map (·.type)=some 55:=by kernel_rfl
theorem znj:prog.cellsOf 3=1:=by kernel_rfl
theorem zml:prog.cellsOf 53=1:=by kernel_rfl
theorem zpg:prog.cellsOf 55=2:=by kernel_rfl
theorem zli{W:World}{l:List (String × DataW Unit)}(h:laidMetH prog l W)(hk:(l.filter fun x=>x.1 == "solspace/solspaceref.Fine")=[("solspace/solspaceref.Fine",Rows.laid_solspace_solspaceref_Fine)]):yA W:=by
 have h2:=h.filter fun x=>x.1 == "solspace/solspaceref.Fine";rw[hk] at h2;have h3:laidMet prog [("solspace/solspaceref.Fine",Rows.laid_solspace_solspaceref_Fine)] W:=h2;obtain⟨ps,⟨g',t',cs,o,p,q,u,y,j,hd,_,_⟩,_⟩:=h3;obtain rfl:=zru (zag.symm.trans u);obtain rfl:=zru (zk3.symm.trans y);obtain⟨y0,y1,n,hx,hl,g0,g1⟩:=trod_struct2 underlying55 hd;rw[zpg] at hl;obtain⟨cs⟩:=cs;simp only at hl g0 g1
 match cs,hl with
 |[v0,v1],_ =>
  simp[zml,znj] at g0 g1;obtain⟨z0,e0,x0,-⟩:=DataW.trod_int underlying53 g0;obtain⟨z1,e1,x1,-⟩:=DataW.trod_int zrn g1;simp at e0 e1;subst e0 e1 x0 x1;simp[Rows.laid_solspace_solspaceref_Fine] at hx;obtain⟨⟨rfl,rfl⟩,-⟩:=hx;have h0:W.cell? ⟨0,0,none⟩=some (.int .i64 0):=by have:=ztp zag j 0;simpa using this
  exact⟨h0,by have:=ztp zag j 1;simpa using this,zsS _ _ h0⟩
end
section
open Go.ChangeShapes Go.WideShapes Go.ChangeAt Go.RowKit Go.Shelf
theorem zdA:prog.globalNamed "solspace/catalog.words"=some 2:=by kernel_rfl
theorem zk8:(prog.globals[2]?).map (·.type)=some 227:=by kernel_rfl
theorem zkY:prog.cellsOf 227=5:=by kernel_rfl
theorem zjz{H:Type}{enc:TypeId × Value->H}{P:Program}{w:World}{base:Nat}{sp:Nat->Bool}{held:Bool}{fuel:Nat}{t e:TypeId}{n:Nat}{cs:List Value}{zs:List ByteArray}{p:List MemPlace}
  (ht:P.underlying t=some (.array n e)) (he:P.underlying e=some .string) (hce:P.cellsOf e=1) (hct:P.cellsOf t=n)
  (h:DataW.trod enc P w base sp held fuel t cs=some (.agg (zs.map fun z=>.lit (.string z.data.toList)),p)):cs=zs.map fun z=>Value.string z:=by
 cases fuel with
 |zero=>simp[DataW.trod] at h
 |succ fuel =>
  simp only[DataW.trod,ht,hce,hct,Nat.mul_one] at h;split at h
  ·rename_i hl;obtain⟨xs,hm,hx⟩:=zuf.1 h;have j:xs.map (·.1)=zs.map fun z=>(DataW.lit (.string z.data.toList):DataW H):=by
    have:=zsj Prod.fst hx;simpa using this
   have q:xs.length=n:=by simpa using Lib.mapM_length hm
   have u:zs.length=n:=by
    have:=zsj List.length j;simp at this;omega
   apply zuw;intro i
   by_cases hi:i<n
   ·obtain⟨b,hb,hf⟩:=Lib.mapM_at hm i i (by simp[hi]);obtain⟨z,hc,rfl,_⟩:=DataW.trod_string he hf;have h1:cs[i]?=some (.string z):=by
     have:=zsj (·[0]?) hc;simpa[List.getElem?_take,List.getElem?_drop] using this
    have h2:(xs.map (·.1))[i]?=some (DataW.lit (.string z.data.toList):DataW H):=by simp[hb]
    rw[j] at h2;simp only[zs9,zuf,DataW.lit.injEq,Lit.string.injEq] at h2;obtain⟨z',o,e⟩:=h2;obtain rfl:z'=z:=zuY (Array.toList_inj.1 e);simp[h1,o]
   ·rw[zsM (by omega),zsM (by simp;omega)]
  ·cases h
theorem zkA{W:World}{l:List (String × DataW Unit)}(h:laidMetH prog l W)(hk:(l.filter fun x=>x.1 == "solspace/catalog.words")=[("solspace/catalog.words",Rows.laid_solspace_catalog_words)]):Qk W:=by
 have h2:=h.filter fun x=>x.1 == "solspace/catalog.words";rw[hk] at h2;have h3:laidMet prog [("solspace/catalog.words",Rows.laid_solspace_catalog_words)] W:=h2;obtain⟨ps,⟨g',t',cs,u,p,q,y,C,j,hd,_,_⟩,_⟩:=h3;obtain rfl:=zru (zdA.symm.trans y);obtain rfl:=zru (zk8.symm.trans C);have o:=zjz (zs:=[⟨#[]⟩,⟨#[112,97,99,107,97,103,101]⟩,⟨#[110,101,101,100,115]⟩,⟨#[99,108,97,115,104,101,115]⟩,⟨#[114,111,111,116]⟩]) underlying227 zrf JK zkY hd;have H:=fun (i:Nat)=>ztp zdA j i;obtain⟨cs⟩:=cs;simp only at o;subst o;exact⟨by simpa using H 0,by simpa using H 1,by simpa using H 2,by simpa using H 3,by simpa using H 4⟩
theorem zfj:prog.globalNamed "solspace/solspaceref.kinds"=some 1:=by kernel_rfl
theorem zoI:(prog.globals[1]?).map (·.type)=some 84:=by kernel_rfl
theorem zid{W:World}{l:List (String × DataW Unit)}(h:laidMetH prog l W)(hk:(l.filter fun x=>x.1 == "solspace/solspaceref.kinds")=[("solspace/solspaceref.kinds",Rows.laid_solspace_solspaceref_kinds)]):∃ad u,xe W ad u:=by
 have h2:=h.filter fun x=>x.1 == "solspace/solspaceref.kinds";rw[hk] at h2;have h3:laidMet prog [("solspace/solspaceref.kinds",Rows.laid_solspace_solspaceref_kinds)] W:=h2;obtain⟨ps,⟨g',t',cs,K,p,q,M,U,J,hd,_,_⟩,_⟩:=h3;obtain rfl:=zru (zfj.symm.trans M);obtain rfl:=zru (zoI.symm.trans U);have H:=ztp zfj J 0;rcases Go.Deep.open_slice1 underlying84 JK hd with ⟨_,hx⟩|⟨a,len,u,m,n,V,D,Pl,y,hb,hl,hm,R,hx,hc⟩
 ·simp[Rows.laid_solspace_solspaceref_kinds] at hx
 ·have h1:=zsj Prod.fst hx;simp only[Rows.laid_solspace_solspaceref_kinds,DataW.slice.injEq] at h1;obtain⟨h1,Y⟩:=h1;have C:len=5:=by have:=zsj List.length h1;simpa using this.symm
  subst C;have Z:5<=m:=by rw[R];split<;>omega
  have hD:∀j,j<5->D j=.lit (.string (wl j)):=fun j hj=>by
   have:=zsj (·[j]?) h1;simp only[zs9] at this
   match j,hj with
   |0,_=>simpa[wl] using this.symm
   |1,_=>simpa[wl] using this.symm
   |2,_=>simpa[wl] using this.symm
   |3,_=>simpa[wl] using this.symm
   |4,_=>simpa[wl] using this.symm
  have o:∀j,j<5->W.cell? (a.add j)=some (.string ⟨(wl j).toArray⟩):=fun j hj=>by
   obtain⟨z,hz,X,_⟩:=DataW.trod_string zrf (hc j (by omega)).2;rw[(hc j (by omega)).1];have e1:V j=.string z:=by simpa using hz
   rw[e1];have e2:z.data.toList=wl j:=by
    have h7:=hD j hj;have h8:=zsj Prod.fst X;simp only at h8;rw[h8] at h7;simpa using h7
   rw[Y6 e2]
  refine⟨a,u,?_,o,?_,?_⟩
  ·obtain⟨cs⟩:=cs;simp only at y;subst y;simpa using H
  ·have h0:W.cell? ⟨1,0,none⟩=some (.slice (some a) 5 u):=by
    obtain⟨cs⟩:=cs;simp only at y;subst y;simpa using H
   exact zsS _ _ h0
  ·have:=zsS _ _ (o 0 (by omega))
   rwa [Z0] at this
noncomputable def zaE(os:Os):World :=
 let w0:=World.holding prog os ⟨#[.cells #[.string ⟨#[118,97,108,117,101,32,111,117,116,32,111,102,32,114,97,110,103,101]⟩] 375,.cells #[.string ⟨#[105,110,118,97,108,105,100,32,115,121,110,116,97,120]⟩] 375,.cells #[.string ⟨#[]⟩,.string ⟨#[112,97,99,107,97,103,101]⟩,.string ⟨#[110,101,101,100,115]⟩,.string ⟨#[99,108,97,115,104,101,115]⟩,.string ⟨#[114,111,111,116]⟩] 9],#[],[]⟩
 { w0 with heap:=((((((((((w0.heap.modify 3 (Z6 #[.iface 288 (.agg #[.pointer (some ⟨12,31,none⟩)])])).modify 10 (Z6 #[.iface 373 (.pointer (some ⟨18,0,none⟩))])).modify 11 (Z6 #[.iface 373 (.pointer (some ⟨17,0,none⟩))])).modify 4 (Z6 (X9 Rows.laid_internal_strconv_uint64pow10))).modify 8 (Z6 (X9 Rows.laid_unicode_utf8_first))).modify 9 (Z6 (X9 Rows.laid_unicode_utf8_acceptRanges))).modify 6 (Z6 (X9 Rows.laid_math_bits_deBruijn32tab))).modify 7 (Z6 (X9 Rows.laid_math_bits_deBruijn64tab))).modify 2 (Z6 #[.string ⟨#[]⟩,.string ⟨#[112,97,99,107,97,103,101]⟩,.string ⟨#[110,101,101,100,115]⟩,.string ⟨#[99,108,97,115,104,101,115]⟩,.string ⟨#[114,111,111,116]⟩])).modify 0 (Z6 #[(0:Int),.int .i64 (-1)])).modify 1 (Z6 #[.slice (some ⟨19,0,none⟩) 5 5]) }
end
