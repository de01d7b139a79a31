/- The reference's has and spread. -/
import Derived.Test.YtiihalknffbjpaaGreatDoorClSolve
set_option maxHeartbeats 4000000
set_option maxRecDepth 100000
namespace Go.Proofs.YtiihalknffbjpaaGreatDoor
section
open Go.RowKit Go.Deep Sv
theorem RS.clause{B:Nat}{W:World}{cv fv:Value}{K:List (List Int)}{F:List Int}(h:RS B W cv fv K F){i:Nat}(hi:i<K.length):∃a cap,(K.getD i []).length<=cap/\cap<=9223372036854775807/\zW 0 W a (K.getD i [])/\∃cg cc,cv=.slice (some ⟨cg,0,none⟩) K.length cc/\cg<W.heap.size/\W.cell? ⟨cg,i,none⟩=some (.slice a (K.getD i []).length cap):=by
 obtain⟨cs,h1,h2,_,_⟩:=h.crow;obtain⟨a,cap,q1,q2,q3,q4⟩:=h2.2 i hi;obtain⟨g,c,e,hg,hc⟩:=(zj h1).cells (by omega);exact⟨a,cap,q2,q3,q4,g,c,e,hg,hc i _ q1⟩
theorem zeL(B:Nat)(P:List (Int × List Int))(cv fv:Value)(bs:List Bool)(la:Option Addr)(lc:Nat)(w:World)(hr:RS B w cv fv (P.map Prod.snd) (P.map Prod.fst))(hb:xU w la bs)(hP:P.length<=10000) :
  zC 185 #[cv,fv,.slice la bs.length lc] w fun e w'=>∃v',e=.returned v'/\CO w.heap.size w' v' (zS P bs)/\zB w w':=by
 obtain⟨ca,cc,rfl,-⟩:∃a c,cv=.slice a P.length c/\True:=by obtain⟨cs,h1,_⟩:=hr.crow;obtain⟨a,c,e,_⟩:=(zj h1).form;exact⟨a,c,by simpa using e,trivial⟩
 obtain⟨fa,fc,rfl,-⟩:∃a c,fv=.slice a P.length c/\True:=by obtain⟨a,c,e,_⟩:=(zj hr.frow).form;exact⟨a,c,by simpa using e,trivial⟩
 obtain⟨ic,hic,hc0',hc1',hc2'⟩:=info_parts Qp;have HR:=zH hr;have HBO:=zH hb;have HEND:Hid (ym P bs P.length=zS P bs):=by show _=_;unfold ym;rw[List.take_length]
 generalize zS P bs=RES at *;clear hr hb;go_enter Tryz.func185,Tryz.ntmps185;go_wp2_with fail;go_loopw [7,12] (fun oV iV wr=>∃(i:Nat),i<=P.length/\iV=.int .i64 i/\CO w.heap.size wr oV (ym P bs i)/\zB w wr) (fun _ iV _=>P.length-(intOf iV).toNat)
 case atStart=>exact⟨0,Nat.zero_le _,rfl,⟨[],World.ownsRow_nil _ _ _ _,zE.nil⟩,Below.refl _ _⟩
 case round =>
  obtain⟨i,hi,rfl,hco,hbw⟩:=hrel;obtain⟨ca0,cc0,rfl⟩:∃a c,_=Value.slice a (ym P bs i).length c:=by obtain⟨cs,h1,_⟩:=hco;obtain⟨a,c,e,_⟩:=(zj h1).form;exact⟨a,c,e⟩
  have HCO:=zH hco;have HBW:=zH hbw;have hws:=hbw.size
  by_cases hlt:i<P.length
  ·obtain⟨a,cap,t1,t2,t3,cg,cc',e1,hcg,q1⟩:=(HR.out.new hbw).clause (i:=i) (by simpa using hlt);obtain⟨fg,fc',e2,hfg,hfc⟩:=(zj (HR.out.new hbw).frow).cells (by simp;omega);simp at e1 e2;obtain⟨rfl,rfl⟩:=e1;obtain⟨rfl,rfl⟩:=e2;have HSU:=zH (zau P bs i hlt);have hol:=Jm P bs i;obtain⟨f,hfe⟩:∃f,(P.getD i default).1=f:=⟨_,rfl⟩;obtain⟨c,hce⟩:∃c,(P.getD i default).2=c:=⟨_,rfl⟩;have hPi:P[i]?=some (f,c):=by rw[<-hfe,<-hce,List.getD_eq_getElem?_getD,List.getElem?_eq_getElem hlt];rfl
   have hcl:(P.map Prod.snd).getD i []=c:=by rw[List.getD_eq_getElem?_getD,List.getElem?_map,hPi];rfl
   rw[hcl] at t1 t3 q1;rw[hfe,hce] at HSU;have q2:wr.cell? ⟨fg,i,none⟩=some (.int .i64 f):=hfc i _ (by simp[zd,hPi]);have hii0:(0:Int)<=(i:Int):=by omega
   have hii1:(i:Int)<(P.length:Int):=by omega
   have HT3:=zH t3;obtain⟨cs,hrow,hck⟩:=HCO.out;have HROW:=zH hrow;have HCK:=zH hck;have HBR:=zH (HBO.out.below hbw zN);clear hfe hce hPi hcl t3 hco hbw hfc hrow hck;go_upto_region 5 with fail;go_cut [12,46] from 12 to 51 (fun kV bV wx=>kV=.int .i64 i/\bV=.bool (q7 bs f)/\wx=wr)
   case first =>
    by_cases h1:f=-1
    ·subst h1;have HT:Hid (q7 bs (-1)=true):=by show _=_;simp[q7]
     go_wp2;go_meet
     case rel=>exact⟨rfl,by rw[HT.out],rfl⟩
    ·have hq:(f==-1)=false:=by simpa using h1
     by_cases h0:0<=f
     ·obtain⟨k,rfl⟩:=Int.eq_ofNat_of_zero_le h0
      by_cases hk:k<bs.length
      ·obtain⟨ad,rfl,hlt2,hcell⟩:=HBR.out k hk;have HT:Hid (q7 bs (k:Int)=bs.getD k false):=by show _=_;simp[q7]
       generalize bs.getD k false=bb at *;have hki:(k:Int)<(bs.length:Int):=by omega
       have hk0:(0:Int)<=(k:Int):=by omega
       obtain⟨ab,ao,asp⟩:=ad;go_wp2;go_meet
       case rel=>exact⟨rfl,by rw[HT.out],rfl⟩
      ·have HT:Hid (q7 bs (k:Int)=false):=by show _=_;simp[q7,List.getD_eq_getElem?_getD,List.getElem?_eq_none (show bs.length<=k by omega)]
       have hki:¬(k:Int)<(bs.length:Int):=by omega
       go_wp2;go_meet
       case rel=>exact⟨rfl,by rw[HT.out],rfl⟩
     ·have HT:Hid (q7 bs f=false):=by show _=_;simp[q7,h1,h0]
      go_wp2;go_meet
      case rel=>exact⟨rfl,by rw[HT.out],rfl⟩
   case rest =>
    obtain⟨rfl,rfl,hwc⟩:=hcut;subst hwc;clear q1 q2;cases htd:q7 bs f with
    |true =>
     rw[htd] at HSU;clear htd;go_wp2_with (at_builtin;refine wpList_append_own_at _ rfl _ _ 26 rfl w.heap.size 81 ic (.slice none 0 0) 1 24 Tryz.underlying26 hic hc0' hc1' hc2' rfl (by decide) _ _ _ rfl (HROW.out.alloc _) ⟨wc.heap.size,0,none⟩ 1 1 [.slice a c.length cap] rfl rfl ?c1 ?c2 ?c3 ?c4 ?c5 ?_)
     try(case c1=>exact ZS _ _ _)
     case c2=>first|rfl|(intro u hu;rw[List.mem_singleton] at hu;subst hu;rfl)
     case c3=>unfold maxLen;omega
     case c4=>omega
     case c5=>first|omega|(simp;omega)
     intro v7 w7 hown7 hgrow7 _ hloc7;obtain⟨hco7,hb7⟩:=CO.app (by omega) HROW.out HCK.out t1 t2 HT3.out hown7 hgrow7;have HC7:Hid (CO w.heap.size w7 v7 (ym P bs (i+1))):=by show CO _ _ _ _;rw[HSU.out,if_pos (by simp)];exact hco7
     have HB7:Hid (zB w w7):=HBW.out.trans hb7;clear hown7 hgrow7 hloc7 hco7 hb7 HROW HCK HT3 HSU;go_wp2;go_roundw
     case rel=>exact⟨i+1,hlt,by go_num,HC7.out,HB7.out⟩
     case measure=>simp[intOf];omega
    |false =>
     rw[htd] at HSU;clear htd;have HC7:Hid (CO w.heap.size wc (.slice ca0 (ym P bs i).length cc0) (ym P bs (i+1))):=by show CO _ _ _ _;rw[HSU.out,if_neg (by simp),List.append_nil];exact HCO.out
     clear HROW HCK HT3 HSU HCO;go_wp2;go_roundw
     case rel=>exact⟨i+1,hlt,by go_num,HC7.out,HBW.out⟩
     case measure=>simp[intOf];omega
  ·obtain rfl:i=P.length:=by omega
   have hni:¬(P.length:Int)<(P.length:Int):=by omega
   clear hco hbw;go_wp2;go_ret;exact⟨_,rfl,by rw[<-HEND.out];exact HCO.out,HBW.out⟩
end
section
open Go.RowKit Go.Deep
theorem zfu{v:Nat}{l:List (List Int)}{told t:List Int}{b:Int}{ds:List (Int × List Int)}{prf:List (List Int)}(h:xv (l++prf) told t b){r:Res}(hr:Run v l ⟨told,ds,prf⟩ r):Run v l ⟨t,ds,prf⟩ r/\zt t (l++prf)=(b,0):=by
 induction h with
 |stop e=>exact⟨hr,e⟩
 |step e hx _ ih=>exact ih (hr.at_go (XS (s:=⟨_,ds,prf⟩) e hx))
theorem zhu{v:Nat}{l:List (List Int)}(hv:v<=24)(hl:qL v l){told t:List Int}{b:Int}{ds:List (Int × List Int)}{prf:List (List Int)}(h:xv (l++prf) told t b):yW v ⟨told,ds,prf⟩->yW v ⟨t,ds,prf⟩/\mu ⟨t,ds,prf⟩<=mu ⟨told,ds,prf⟩:=by
 induction h with
 |stop e=>intro hg;exact⟨hg,Nat.le_refl _⟩
 |step e hx _ ih =>intro hg;obtain⟨g,m⟩:=Qy hv hl hg (XS (s:=⟨_,ds,prf⟩) e hx);obtain⟨g2,m2⟩:=ih g;exact⟨g2,Nat.le_trans m2 (Nat.le_of_lt m)⟩
def orS(n:Nat)(x:Int):Nat:=if 0<x then n|||2^(x.toNat-1) else n
def orF(xs:List Int):Nat:=xs.foldl orS 0
theorem zat(xs:List Int)(x:Int):orF (xs++[x])=orS (orF xs) x:=by unfold orF;rw[List.foldl_append];rfl
theorem zcd:∀(n:Nat) (xs:List Int),xs.length=n->∀i,(orF xs).testBit i=decide (((i:Int)+1)∈xs)
 |0,xs,h,i=>by
  obtain rfl:=List.length_eq_zero_iff.1 h;simp[orF]
 |n+1,xs,h,i=>by
  have hne:xs≠[]:=fun e=>by rw[e] at h;cases h
  obtain⟨d,x,rfl⟩:∃d x,xs=d++[x]:=⟨_,_,(List.dropLast_concat_getLast hne).symm⟩;have ih:=zcd n d (by simpa using h) i;rw[zat];unfold orS
  by_cases hp:0<x
  ·rw[if_pos hp,Nat.testBit_or,ih,Nat.testBit_two_pow,Bool.eq_iff_iff];simp only[Bool.or_eq_true,decide_eq_true_eq,List.mem_append,List.mem_singleton];constructor
   ·rintro (h1|h1)
    ·exact Or.inl h1
    ·exact Or.inr (by omega)
   ·rintro (h1|h1)
    ·exact Or.inl h1
    ·exact Or.inr (by omega)
  ·rw[if_neg hp,ih,Bool.eq_iff_iff];simp only[decide_eq_true_eq,List.mem_append,List.mem_singleton];constructor
   ·exact Or.inl
   ·rintro (h1|h1)
    ·exact h1
    ·omega
theorem zbA{v:Nat}{t:List Int}(hv:v<=24)(hl:ya v t):orF t=yb t 24:=by
 apply Nat.eq_of_testBit_eq;intro i;rw[zcd _ t rfl,Xf,Bool.eq_iff_iff];simp only[decide_eq_true_eq,Bool.and_eq_true];constructor
 ·intro h;have:=qw.1 (hl _ h);exact⟨by omega,by unfold tv;rw[if_pos h];omega⟩
 ·rintro⟨_,h⟩;unfold tv at h;split at h
  ·assumption
  ·split at h<;>omega
theorem ziJ{v:Nat}{t:List Int}(hv:v<=24)(hl:ya v t):orF t<16777216:=by
 rw[zbA hv hl];exact K6 t 24
theorem zaO{v:Nat}{told:List Int}{k:Nat}(h0:∀i,i<k->tv told i≠0)(hk:k<v)(h1:tv told k=0):yr v told=(k:Int):=by
 rcases ZJ (v:=v) (told:=told) with ⟨_,h⟩|⟨j,e,hj,h2,h3⟩
 ·exact absurd h1 (h k hk)
 ·have:j=k:=by
   rcases Nat.lt_trichotomy j k with h|h|h
   ·exact absurd h2 (h0 j h)
   ·exact h
   ·exact absurd h1 (h3 k h)
  rw[<-this];exact e
theorem zfF{v:Nat}{told:List Int}(h0:∀i,i<v->tv told i≠0):yr v told=-1:=by
 rcases ZJ (v:=v) (told:=told) with ⟨e,_⟩|⟨j,_,hj,h2,_⟩
 ·exact e
 ·exact absurd h2 (h0 j hj)
end
section
open Go.RowKit Go.Deep
def Zi(told:List Int)(s:List Int × Bool)(x:Int):List Int × Bool:=if x∈told then (s.1,true) else if -x∉told/\x∉s.1 then (s.1++[x],s.2) else s
def qu(told c:List Int):List Int × Bool:=c.foldl (Zi told) ([],false)
theorem zaA(told c:List Int)(x:Int):qu told (c++[x])=Zi told (qu told c) x:=by unfold qu;rw[List.foldl_append];rfl
structure zbq(told c:List Int)(r:List Int × Bool):Prop where
 holds:r.2=true↔∃x∈c,x∈told
 left:∀y,y∈r.1↔y∈c/\y∉told/\-y∉told
 nodup:r.1.Nodup
theorem YZ(told c:List Int):zbq told c (qu told c):=by
 have key:∀n c,c.length=n->zbq told c (qu told c):=by
  intro n
  induction n with
  |zero =>intro c hc;obtain rfl:=List.length_eq_zero_iff.1 hc;exact⟨by simp[qu],fun y=>by simp[qu],by simp[qu]⟩
  |succ n ih =>
   intro c hc;have hne:c≠[]:=fun e=>by rw[e] at hc;cases hc
   obtain⟨d,x,rfl⟩:∃d x,c=d++[x]:=⟨_,_,(List.dropLast_concat_getLast hne).symm⟩;have h:=ih d (by simpa using hc);rw[zaA];generalize qu told d=r at *;unfold Zi
   by_cases h1:x∈told
   ·rw[if_pos h1];refine⟨⟨fun _=>⟨x,by simp,h1⟩,fun _=>rfl⟩,fun y=>?_,h.nodup⟩;rw[h.left y];constructor
    ·rintro⟨q1,q2,q3⟩;exact⟨List.mem_append.2 (Or.inl q1),q2,q3⟩
    ·rintro⟨q1,q2,q3⟩;simp only[List.mem_append,List.mem_singleton] at q1;rcases q1 with q1|q1
     ·exact⟨q1,q2,q3⟩
     ·rw[q1] at q2;exact absurd h1 q2
   ·rw[if_neg h1]
    by_cases h2:-x∉told/\x∉r.1
    ·rw[if_pos h2];refine⟨?_,fun y=>?_,?_⟩
     ·rw[h.holds];constructor
      ·rintro⟨y,q1,q2⟩;exact⟨y,List.mem_append.2 (Or.inl q1),q2⟩
      ·rintro⟨y,q1,q2⟩;simp only[List.mem_append,List.mem_singleton] at q1;rcases q1 with q1|q1
       ·exact⟨y,q1,q2⟩
       ·rw[q1] at q2;exact absurd q2 h1
     ·simp only[List.mem_append,List.mem_singleton,h.left y];constructor
      ·rintro (⟨q1,q2,q3⟩|q)
       ·exact⟨Or.inl q1,q2,q3⟩
       ·rw[q];exact⟨Or.inr rfl,h1,h2.1⟩
      ·rintro⟨q1|q1,q2,q3⟩
       ·exact Or.inl ⟨q1,q2,q3⟩
       ·exact Or.inr q1
     ·rw[List.nodup_append];exact⟨h.nodup,by simp,fun y hy z hz e=>h2.2 (by rw[List.mem_singleton] at hz;rw[<-hz,<-e];exact hy)⟩
    ·rw[if_neg h2];refine⟨?_,fun y=>?_,h.nodup⟩
     ·rw[h.holds];constructor
      ·rintro⟨y,q1,q2⟩;exact⟨y,List.mem_append.2 (Or.inl q1),q2⟩
      ·rintro⟨y,q1,q2⟩;simp only[List.mem_append,List.mem_singleton] at q1;rcases q1 with q1|q1
       ·exact⟨y,q1,q2⟩
       ·rw[q1] at q2;exact absurd q2 h1
     ·rw[h.left y];simp only[List.mem_append,List.mem_singleton];constructor
      ·rintro⟨q1,q2,q3⟩;exact⟨Or.inl q1,q2,q3⟩
      ·rintro⟨q1|q1,q2,q3⟩
       ·exact⟨q1,q2,q3⟩
       ·rw[q1] at q3 ⊢;have:x∈r.1:=Classical.byContradiction fun hn=>h2 ⟨q3,hn⟩;exact(h.left x).1 this
 exact key _ c rfl
theorem zlg{told c:List Int}(hc:qD told):zX told c=if (qu told c).2=true\/1<(qu told c).1.length then (0,false) else if (qu told c).1.length=0 then (0,true) else ((qu told c).1.getD 0 0,true):=by
 have ho:=KG (c:=c) hc;have hl:=YZ told c;generalize qu told c=r at *;generalize zX told c=o at *;obtain⟨left,holds⟩:=r;simp only at *;cases ho with
 |none h =>
  have h1:¬holds=true:=fun e=>by obtain⟨x,hx,ht⟩:=hl.holds.1 e;exact(h x hx).1 ht
  have h2:left=[]:=List.eq_nil_iff_forall_not_mem.2 fun y hy=>by
   obtain⟨q1,_,q3⟩:=(hl.left y).1 hy;exact q3 (h y q1).2
  subst h2;rw[if_neg (by simp[h1]),if_pos (by simp)]
 |one hx n1 n2 h =>
  rename_i x;have h1:¬holds=true:=fun e=>by
   obtain⟨y,hy,ht⟩:=hl.holds.1 e
   by_cases e':y=x
   ·rw[e'] at ht;exact n1 ht
   ·exact(h y hy e').1 ht
  have hxl:x∈left:=(hl.left x).2 ⟨hx,n1,n2⟩;have hall:∀y∈left,y=x:=fun y hy=>Classical.byContradiction fun e'=>by
   obtain⟨q1,_,q3⟩:=(hl.left y).1 hy;exact q3 (h y q1 e').2
  have hlen:left=[x]:=by
   match left,hxl,hall,hl.nodup with
   |[y],_,ha,_=>rw[ha y (by simp)]
   |y :: z :: r,_,ha,hn =>exfalso;have e1:=ha y (by simp);have e2:=ha z (by simp);rw[e1,e2] at hn;simp at hn
  subst hlen;rw[if_neg (by simp[h1]),if_neg (by simp)];rfl
 |held hx h =>rw[if_pos (Or.inl (hl.holds.2 ⟨_,hx,h⟩))]
 |two hx hy hne n1 n2 n3 n4 =>
  rename_i x y;have hxl:x∈left:=(hl.left x).2 ⟨hx,n1,n2⟩;have hyl:y∈left:=(hl.left y).2 ⟨hy,n3,n4⟩;have:1<left.length:=by
   match left,hxl,hyl with
   |[z],h1,h2=>simp at h1 h2;exact absurd (h1.trans h2.symm) hne
   |z :: z' :: r,_,_=>simp
  rw[if_pos (Or.inr this)]
theorem zhG(told c:List Int):(qu told c).1.length<=c.length:=by
 have key:∀(c:List Int) (s:List Int × Bool),(c.foldl (Zi told) s).1.length<=s.1.length+c.length:=by
  intro c
  induction c with
  |nil=>intro s;simp
  |cons x c ih =>
   intro s;rw[List.foldl_cons];refine Nat.le_trans (ih _) ?_;have:(Zi told s x).1.length<=s.1.length+1:=by
    unfold Zi;split
    ·simp
    ·split
     ·simp
     ·simp
   rw[List.length_cons];omega
 have:=key c ([],false);simpa[qu] using this
theorem zdV{told c:List Int}(hl:ya 24 c):(qu told c).1.length<=48 :=
 zee (YZ told c).nodup fun x hx=>hl x (((YZ told c).left x).1 hx).1
end
section
open Go.RowKit Go.Deep
theorem Xx(xs:List Int)(x:Int)(a:Option Addr)(cap:Nat)(w:World)(hI:qh w a xs)(hm:xs.length<=9223372036854775807) :
  zC 246 #[.slice a xs.length cap,.int .i64 x] w fun e w'=>e=.returned (.bool (decide (x∈xs)))/\w=w':=by
 have HI:=zH hI;clear hI;go_enter Tryz.func246,Tryz.ntmps246;go_wp2_with fail;go_loop [9] (fun kV=>∃k:Nat,k<=xs.length/\kV=.int .i64 k/\∀j,j<k->xs.getD j 0≠x) (fun kV=>xs.length-(intOf kV).toNat)
 case atStart=>exact⟨0,Nat.zero_le _,rfl,fun j h=>by omega⟩
 case round =>
  obtain⟨k,hk,rfl,h1⟩:=hrel;have H1:=zH h1;clear h1
  by_cases hlt:k<xs.length
  ·obtain⟨ad,rfl,hl,hc⟩:=HI.out k hlt;have hmem:=yv (d:=0) hlt;generalize hy:xs.getD k 0=y at *;have HY:=zH hy;clear hy
   by_cases he:x=y
   ·subst he;have HM:Hid (decide (x∈xs)=true):=decide_eq_true hmem;clear hmem;go_wp2;go_ret;exact⟨by rw[HM.out];rfl,rfl⟩
   ·have he':(x==y)=false:=by simpa using he
    clear hmem;go_wp2;go_round
    case rel=>exact ⟨k + 1,hlt,by go_num,fun j hj=>(by
     rcases Nat.lt_succ_iff_lt_or_eq.1 hj with e|e
     ·exact H1.out j e
     ·rw [e,HY.out];exact fun h=>he h.symm)⟩
    case measure=>simp[intOf];omega
  ·obtain rfl:k=xs.length:=by omega
   have HM:Hid (decide (x∈xs)=false):=decide_eq_false fun hm=>by
    obtain⟨j,hj,e⟩:=List.getElem_of_mem hm;refine H1.out j hj ?_;rw[List.getD_eq_getElem?_getD,List.getElem?_eq_getElem hj];exact e
   go_wp2;go_ret;exact⟨by rw[HM.out];rfl,rfl⟩
section
variable {P:Program} {a:Act} {w:World} {Q:Exit->Act->World->Prop}
theorem zjb{b:Code}(l:Nat)(J:Act->World->Prop)(μ:Act->World->Nat)(h0:J a w)(pass:∀a w,J a w->b.wp P (Exit.jump l (fun a' w'=>J a' w'/\μ a' w'<μ a w) Q) a w):(Code.scope ((Code.label l).seq b)).wp P Q a w :=
 wp_scope_jumps l J μ (rest:=Code.skip.seq b) (by simp [findLabel]) (wp_seq (wp_label (wp_mono (pass a w h0) (fun e a' w' h=>by
  cases e with
  |goto l'=>exact⟨h.1,h.2.1⟩
  | _=>exact h)))) (fun a w hJ=>wp_seq (wp_skip (pass a w hJ)))
theorem QC{ops:Array Oper}{o:Oper}{K:Act->World->Prop}{E:Prop}(hgd:o.guard=none)(s x:Operand)(t:TypeId)
  (ho:o.op=.call { callee:=.builtin .append,args:=#[s,x],argTypes:=#[t,t] }) (v u:Value) (hs:a.eval s=v) (hx:a.eval x=u) {R:Value->World->Prop} (hrun:∃v' w',(Builtin.append_ #[t,t] o.type #[v,u]).run P w=.ok v' w'/\R v' w')
  (h:∀v' w',R v' w'->K (a.put o.dst v') w'):if Region.wanted o (yielded ops a.tmps)=true then Oper.wp P o a w K Q else E:=by
 have hw:Region.wanted o (yielded ops a.tmps)=true:=by simp[Region.wanted,hgd]
 rw[if_pos hw];obtain⟨v',w',hr,hR⟩:=hrun;unfold Oper.wp execOp;simp only[ho,resolve,invoke,builtin,Sem.run_bind,Sem.run_pure,Result.andThen_ok,List.map_toArray,List.map_cons,List.map_nil,hs,hx,hr];exact h v' w' hR
end
theorem YQ{W:World}{H k:Nat}{told:List Int}{ta:Option Addr}{tc:Nat}(ty:TypeId)(hrow:W.ownsRow H 3 1 (.slice (some ⟨k,0,none⟩) 0 0) 0 [])(hT:qh W ta told)(hn:ta=none->tc=0)(hlen:told.length<=24)(hH:H<=W.heap.size) :
  ∃v' W',(Builtin.append_ #[47,47] ty #[.slice (some ⟨k,0,none⟩) 0 0,.slice ta told.length tc]).run Tryz.prog W=.ok v' W'/\(W'.ownsRow H 3 1 v' told.length (zd told)/\W.grownBy W' (some k)):=by
 obtain⟨i0,hin,hz0,hz1,hz2⟩:=info_parts yY;cases ta with
 |none =>
  obtain rfl:told=[]:=by
   cases told with
   |nil=>rfl
   |cons c l=>obtain⟨ad,e,_⟩:=hT 0 (by simp);cases e
  obtain rfl:=hn rfl;exact⟨_,_,run_append_owned_none W H 47 ty 3 i0 1 Tryz.underlying47 hin _ 0 [] hrow,hrow,⟨rfl,rfl,rfl,Nat.le_refl _,fun _ _ _=>rfl⟩⟩
 |some ad =>
  obtain ⟨v',W',h1,h2,h3,-,-⟩:=run_append_own_at (P:=Tryz.prog) W H 47 ty 3 i0 (.int .i64 0) 1 8 Tryz.underlying47 hin hz0 hz1 hz2 rfl (by decide) _ 0 [] hrow ad told.length tc (zd told) (by rw [xC,Nat.mul_one]) (fun j u hu=>by
   have hj:j<told.length:=by have:=(List.getElem?_eq_some_iff.1 hu).1;rw[xC] at this;exact this
   obtain⟨ad',e,_,hc⟩:=hT j hj;obtain rfl:=Option.some.inj e;rw [hc,<- Zu _ _ hj];exact hu) (fun u hu=>by obtain ⟨x,_,rfl⟩:=List.mem_map.1 hu;rfl) (by unfold maxLen;omega) (by omega) hH
  exact⟨v',W',h1,by simpa using h2,h3⟩
theorem KB{W:World}{H kc:Nat}{told:List Int}{x:Int}{v:Value}(ty:TypeId)(hrow:W.ownsRow H 3 1 v told.length (zd told))(hc:W.cell? ⟨kc,0,none⟩=some (.int .i64 x))(hlen:told.length<=24)(hH:H<=W.heap.size) :
  ∃v' W',(Builtin.append_ #[47,47] ty #[v,.slice (some ⟨kc,0,none⟩) 1 1]).run Tryz.prog W=.ok v' W'/\(W'.ownsRow H 3 1 v' (told++[x]).length (zd (told++[x]))/\W.grownBy W' v.ownBlock):=by
 obtain⟨i0,hin,hz0,hz1,hz2⟩:=info_parts yY;obtain ⟨v',W',h1,h2,h3,-,-⟩:=run_append_own_at (P:=Tryz.prog) W H 47 ty 3 i0 (.int .i64 0) 1 8 Tryz.underlying47 hin hz0 hz1 hz2 rfl (by decide) _ _ _ hrow ⟨kc,0,none⟩ 1 1 [.int .i64 x] rfl (fun j u hu=>by
  cases j with
  |zero=>simp at hu;subst hu;rw[yd];exact hc
  | succ j=>simp at hu) (fun u hu=>by rw [List.mem_singleton] at hu;subst hu;rfl) (by unfold maxLen;omega) (by omega) hH
 exact⟨v',W',h1,by rw[yO];simpa using h2,h3⟩
def zd9:Value->Nat
 |.slice _ n _=>n
 |_=>0
def Y8(H:Nat)(a0:Option Addr)(t0:List Int)(ta:Option Addr)(told:List Int):Prop:=(ta=a0/\told=t0)\/∃p:Addr,ta=some p/\H<=p.block
structure Lab(w W:World)(v:Nat)(l:List (List Int))(a0:Option Addr)(t0 told t:List Int)(b:Int)(ta:Option Addr)(tc:Nat):Prop where
 ints:qh W ta told
 nil:ta=none->tc=0
 cons:qD told
 lits:ya v told
 few:told.length+qH told<=24
 sp:xv l told t b
 below:zB w W
 loc:Y8 w.heap.size a0 t0 ta told
theorem Lab.new{w W W':World}{v:Nat}{l:List (List Int)}{a0:Option Addr}{t0 told t:List Int}{b:Int}{ta:Option Addr}{tc:Nat}(h:Lab w W v l a0 t0 told t b ta tc)(hb:zB W W'):Lab w W' v l a0 t0 told t b ta tc :=
 ⟨h.ints.below hb,h.nil,h.cons,h.lits,h.few,h.sp,zT h.below hb,h.loc⟩
def ziu(w:World)(v:Nat)(l:List (List Int))(a0:Option Addr)(t0:List Int)(a:Option Addr)(cap:Nat)(t:List Int)(b:Int)(A:Act)(W:World):Prop :=
 ∃(told:List Int) (ta:Option Addr) (tc:Nat) (u2 u3 u4 u5 u6 u7 u8 u9 u10 u11 u12 u13 u14 u15 u16 u17 u18 u19 u20 u21 u22 u23 u24 u25 u26 u27 u28 u29 u30 u31 u32 u33 u34 u35 u36 u37 u38 u39 u40 u41 u42 u43 u44 u45 u46 u47 u48 u49 u50 u51 u52 u53 u54 u55 u56 u57 u58 u59 u60 u61 u62 u63 u64:Value),A={ tmps:=#[.slice a l.length cap,.slice ta told.length tc,u2,u3,u4,u5,u6,u7,u8,u9,u10,u11,u12,u13,u14,u15,u16,u17,u18,u19,u20,u21,u22,u23,u24,u25,u26,u27,u28,u29,u30,u31,u32,u33,u34,u35,u36,u37,u38,u39,u40,u41,u42,u43,u44,u45,u46,u47,u48,u49,u50,u51,u52,u53,u54,u55,u56,u57,u58,u59,u60,u61,u62,u63,u64],defers:=[] }/\Lab w W v l a0 t0 told t b ta tc
def zbU(H:Nat)(a0:Option Addr)(t0 t:List Int)(b:Int)(e:Ending)(w':World):Prop:=∃ta tc,e=.returned (.tuple #[.slice ta t.length tc,.int .i64 b])/\qh w' ta t/\(ta=none->tc=0)/\Y8 H a0 t0 ta t
theorem zhp(v:Nat)(hv:v<=24)(l:List (List Int))(hls:qL v l)(a:Option Addr)(cap:Nat)(told:List Int)(a2:Option Addr)(cap2:Nat)(w:World)(hI:qn w a l)(hm:l.length<=9223372036854775807)(hT:qh w a2 told)(hn:a2=none->cap2=0)(hco:qD told)(hli:ya v told)(hfew:told.length+qH told<=24)(t:List Int)(b:Int)(hsp:xv l told t b) :
  zC 245 #[.slice a l.length cap,.slice a2 told.length cap2] w fun e w'=>zbU w.heap.size a2 told t b e w'/\zB w w':=by
 have H0:Hid (Lab w w v l a2 told told t b a2 cap2):=⟨hT,hn,hco,hli,hfew,hsp,Below.refl _ _,Or.inl ⟨rfl,rfl⟩⟩;have HI:=zH hI;have HLS:=zH hls;clear hT hn hco hli hfew hsp hI hls;go_enter Tryz.func245,Tryz.ntmps245;go_wp2_with fail;refine zjb 0 (ziu w v l a2 told a cap t b) (fun A _=>24-zd9 (A.tmps.getD 1 undef)) ?_ ?_
 ·exact⟨told,a2,cap2,_,_,_,_,_,_,_,_,_,_,_,_,_,_,_,_,_,_,_,_,_,_,_,_,_,_,_,_,_,_,_,_,_,_,_,_,_,_,_,_,_,_,_,_,_,_,_,_,_,_,_,_,_,_,_,_,_,_,_,_,_,_,_,rfl,H0.out⟩
 ·rintro A W ⟨told',ta,tc,u2,u3,u4,u5,u6,u7,u8,u9,u10,u11,u12,u13,u14,u15,u16,u17,u18,u19,u20,u21,u22,u23,u24,u25,u26,u27,u28,u29,u30,u31,u32,u33,u34,u35,u36,u37,u38,u39,u40,u41,u42,u43,u44,u45,u46,u47,u48,u49,u50,u51,u52,u53,u54,u55,u56,u57,u58,u59,u60,u61,u62,u63,u64,rfl,hLab⟩;clear H0;have HL:=zH hLab;have hlen:told'.length<=24:=by have:=hLab.few;omega
  clear hLab;go_wp2_with fail;go_loopw [1,14] (fun tV kV wr=>∃k:Nat,k<=l.length/\kV=.int .i64 k/\tV=.slice ta told'.length tc/\(∀j,j<k->(zX told' (l.getD j [])).2=false)/\Lab w wr v l a2 told told' t b ta tc) (fun _ kV _=>l.length-(intOf kV).toNat)
  case atStart=>exact⟨0,Nat.zero_le _,rfl,rfl,fun j h=>by omega,HL.out⟩
  case round =>
   obtain⟨k,hk,rfl,rfl,h1,hlr⟩:=hrel;obtain⟨wo,rfl⟩:∃wo,wo=wr:=⟨_,rfl⟩;have H1:=zH h1;have HLR:=zH hlr;clear h1 hlr HL
   by_cases hlt:k<l.length
   ·obtain⟨ad,a',cap',rfl,hl',hc,g1,g2,g3⟩:=HI.out.below HLR.out.below k hlt;have hclit:=HLS.out _ (yv (d:=[]) hlt);have HON:=zH (zlg (c:=l.getD k []) HLR.out.cons);have HNX:Hid ((zX told' (l.getD k [])).2=true->zt told' l=((k:Int),(zX told' (l.getD k [])).1)):=fun h=>zcH H1.out hlt h;generalize hcc:l.getD k []=c at *;have HCC:=zH hcc;have HG3:=zH g3;have HCL:=zH hclit;clear g3 hcc hclit;go_wp2_with fail;go_loopw [8,9,21] (fun lV hV jV wr2=>∃(j:Nat),j<=c.length/\jV=.int .i64 j/\hV=.bool (qu told' (c.take j)).2/\wr2.ownsRow wo.heap.size 3 1 lV (qu told' (c.take j)).1.length (zd (qu told' (c.take j)).1)/\zB wo wr2) (fun _ _ jV _=>c.length-(intOf jV).toNat)
    case atStart=>exact⟨0,Nat.zero_le _,rfl,rfl,World.ownsRow_nil _ _ _ _,Below.refl _ _⟩
    case round =>
     obtain⟨wr2,rfl⟩:∃wr2,wr2=wr:=⟨_,rfl⟩;obtain⟨j,hj,rfl,rfl,hrow,hb2⟩:=hrel;obtain⟨la,lc,rfl,-,-⟩:=zJ hrow;have HLI:=zH (Qn hrow);have HROW:=zH hrow;have HB2:=zH hb2;have hll:=zhG told' (c.take j);have hll48:=zdV (told:=told') (c:=c.take j) (fun x hx=>ZE (by omega) (HCL.out x (List.mem_of_mem_take hx)));have hws:=hb2.size;rw[List.length_take] at hll;clear hrow hb2
     by_cases hjl:j<c.length
     ·obtain⟨ad2,rfl,hl2,hc2⟩:=HG3.out.below HB2.out j hjl;have hlx:=qw.1 (HCL.out _ (yv (d:=0) hjl));have HSN:=zH (show qu told' (c.take (j+1))=Zi told' (qu told' (c.take j)) (c.getD j 0) by rw[XQ hjl,zaA]);generalize hx:c.getD j 0=x at *;have HH1:=Xx told' x ta tc wr2 (HLR.out.ints.below HB2.out) (by omega);have HH2:=Xx told' (-x) ta tc wr2 (HLR.out.ints.below HB2.out) (by omega);have HH3:=Xx (qu told' (c.take j)).1 x la lc wr2 HLI.out (by omega);clear hx;obtain⟨hx1,hx2,hx3⟩:=hlx;generalize hlf:qu told' (c.take j)=r at *;obtain⟨left,holds⟩:=r;simp only at *;clear hlf;have hn24:(x:Int)<=24:=by omega
      have hn25:(-24:Int)<=x:=by omega
      by_cases q1:x∈told'
      ·rw[decide_eq_true q1] at HH1;have HA:=zH HH1;have HE:=zH (show qu told' (c.take (j+1))=(left,true) by rw[HSN.out];unfold Zi;rw[if_pos q1]);clear HH1 HH2 HH3 HSN q1;go_wp2_with fail;refine HA.out.mono ?_;rintro e w3 ⟨rfl,rfl⟩;go_wp2;go_roundw
       case rel=>exact⟨j+1,hjl,by go_num,by rw[HE.out],by rw[HE.out];exact HROW.out,HB2.out⟩
       case measure=>simp[intOf];omega
      ·rw[decide_eq_false q1] at HH1;have HA:=zH HH1
       by_cases q2:-x∈told'
       ·rw[decide_eq_true q2] at HH2;have HA2:=zH HH2;have HE:=zH (show qu told' (c.take (j+1))=(left,holds) by rw[HSN.out];unfold Zi;rw[if_neg q1,if_neg (fun h=>h.1 q2)]);clear HH1 HH2 HH3 HSN q1 q2;go_wp2_with fail;refine HA.out.mono ?_;rintro e w3 ⟨rfl,rfl⟩;go_wp2_with fail;refine HA2.out.mono ?_;rintro e w3 ⟨rfl,rfl⟩;go_wp2;go_roundw
        case rel=>exact⟨j+1,hjl,by go_num,by rw[HE.out],by rw[HE.out];exact HROW.out,HB2.out⟩
        case measure=>simp[intOf];omega
       ·rw[decide_eq_false q2] at HH2;have HA2:=zH HH2
        by_cases q3:x∈left
        ·rw[decide_eq_true q3] at HH3;have HA3:=zH HH3;have HE:=zH (show qu told' (c.take (j+1))=(left,holds) by rw[HSN.out];unfold Zi;rw[if_neg q1,if_neg (fun h=>h.2 q3)]);clear HH1 HH2 HH3 HSN q1 q2 q3;go_wp2_with fail;refine HA.out.mono ?_;rintro e w3 ⟨rfl,rfl⟩;go_wp2_with fail;refine HA2.out.mono ?_;rintro e w3 ⟨rfl,rfl⟩;go_wp2_with fail;refine HA3.out.mono ?_;rintro e w3 ⟨rfl,rfl⟩;go_wp2;go_roundw
         case rel=>exact⟨j+1,hjl,by go_num,by rw[HE.out],by rw[HE.out];exact HROW.out,HB2.out⟩
         case measure=>simp[intOf];omega
        ·rw[decide_eq_false q3] at HH3;have HA3:=zH HH3;have HE:=zH (show qu told' (c.take (j+1))=(left++[x],holds) by rw[HSN.out];unfold Zi;rw[if_neg q1,if_pos ⟨q2,q3⟩]);clear HH1 HH2 HH3 HSN q1 q2 q3;obtain⟨i0,hin,hz0,hz1,hz2⟩:=info_parts yY;go_wp2_with fail;refine HA.out.mono ?_;rintro e w3 ⟨rfl,rfl⟩;go_wp2_with fail;refine HA2.out.mono ?_;rintro e w3 ⟨rfl,rfl⟩;go_wp2_with fail;refine HA3.out.mono ?_;rintro e w3 ⟨rfl,rfl⟩;go_wp2_with (first|(at_builtin;refine wpList_append_own_at _ rfl _ _ 47 rfl wo.heap.size 3 i0 (.int .i64 0) 1 8 Tryz.underlying47 hin hz0 hz1 hz2 rfl (by decide) _ _ _ rfl (HROW.out.alloc _) ⟨wr2.heap.size,0,none⟩ 1 1 [.int .i64 x] rfl rfl ?c1 ?c2 ?c3 ?c4 ?c5 ?_))
         case c1=>exact yJ _ _ _
         case c2=>exact yI _
         case c3=>unfold maxLen;omega
         case c4=>omega
         case c5=>simp;omega
         intro v7 w7 hown7 hgrow7 _ _;have HO7:=zH (show w7.ownsRow wo.heap.size 3 1 v7 (left++[x]).length (zd (left++[x])) by rw[yO];simpa using hown7);have HB7:Hid (zB wo w7):=(HB2.out.alloc hws _).grown hgrow7 (by simp;omega) (fun k hk=>(HROW.out.lt k hk).1);clear hown7 hgrow7;go_wp2;go_roundw
         case rel=>exact⟨j+1,hjl,by go_num,by rw[HE.out],by rw[HE.out];exact HO7.out,HB7.out⟩
         case measure=>simp[intOf];omega
     ·obtain rfl:j=c.length:=by omega
      rw[List.take_length] at *;generalize hlf:qu told' c=r at *;obtain⟨left,holds⟩:=r;simp only at *;have HLF:=zH hlf;clear hlf HG3;cases holds with
      |true =>
       have HFF:=zH (show (zX told' c).2=false by rw[HON.out];simp);clear HON HNX;go_wp2;go_roundw
       case rel=>exact ⟨k + 1,hlt,by go_num,rfl,fun i hi=>(by
        rcases Nat.lt_succ_iff_lt_or_eq.1 hi with e|e
        ·exact H1.out i e
        ·rw [e,HCC.out,HFF.out]),HLR.out.new HB2.out⟩
       case measure=>simp[intOf];omega
      |false =>
       by_cases hl1:1<left.length
       ·have HFF:=zH (show (zX told' c).2=false by rw[HON.out];simp[hl1]);clear HON HNX;generalize left.length=ll at *;go_wp2;go_roundw
        case rel=>exact ⟨k + 1,hlt,by go_num,rfl,fun i hi=>(by
         rcases Nat.lt_succ_iff_lt_or_eq.1 hi with e|e
         ·exact H1.out i e
         ·rw [e,HCC.out,HFF.out]),HLR.out.new HB2.out⟩
        case measure=>simp[intOf];omega
       ·by_cases hl0:left.length=0
        ·have hon:zX told' c=(0,true):=by rw[HON.out,if_neg (by simp[hl1]),if_pos hl0]
         have hnx:=HNX.out (by rw[hon]);rw[hon] at hnx;have HEND:=zH (HLR.out.sp.at_stop hnx);have HLX:=zH (HLR.out.new HB2.out);clear HON HNX hon hnx;rw[hl0] at *;go_wp2;simp only[Exit.jump];go_ret2;obtain⟨rfl,rfl⟩:=HEND.out;exact⟨⟨ta,tc,rfl,HLX.out.ints,HLX.out.nil,HLX.out.loc⟩,HLX.out.below⟩
        ·obtain⟨x,rfl⟩:∃x,left=[x]:=by
          match left,hl0,hl1 with
          |[x],_,_=>exact⟨x,rfl⟩
          |[],h,_=>exact absurd rfl h
          |_ :: _ :: _,_,h=>exact absurd (by simp) h
         have hon:zX told' c=(x,true):=by rw[HON.out,if_neg (by simp),if_neg (by simp)];rfl
         have hnx:zt told' l=((k:Int),x):=by
          have h:=HNX.out (by rw[hon]);rw[hon] at h;exact h
         obtain⟨gl,gcap,hform,hgB,hgl⟩:=HROW.out.form (by simp);have hla:la=some ⟨gl,0,none⟩:=by injection hform
         subst hla;have cx:wr2.cell? ⟨gl,0,none⟩=some (.int .i64 x):=by
          obtain⟨ad3,e3,_,c3⟩:=HLI.out 0 (by simp);obtain rfl:=Option.some.inj e3;simpa[Addr.add] using c3
         have hx0:x≠0:=by
          have hm:=(YZ told' c).left x;rw[HLF.out] at hm;exact(qw.1 (HCL.out x (hm.1 (by simp)).1)).1
         have HSTEP:=zH (HLR.out.sp.at_step hnx hx0);obtain⟨p1,p2,p3,p4,p5⟩:=Yv HLS.out HLR.out.cons HLR.out.lits hnx hx0;have hft:=Qb (ZE (by omega) p1) p2 p3;have hfw:=HLR.out.few;have HNEW:Hid (∀(W4:World) (v4:Value),W4.ownsRow wr2.heap.size 3 1 v4 (told'++[x]).length (zd (told'++[x]))->zB wr2 W4->∃ta4 tc4,v4=.slice ta4 (told'++[x]).length tc4/\Lab w W4 v l a2 told (told'++[x]) t b ta4 tc4):=fun W4 v4 hr4 hb4=>by
          have hsz:=HLR.out.below.size;have hloc4:∀{ta4 tc4},W4.ownsRow wr2.heap.size 3 1 (.slice ta4 (told'++[x]).length tc4) (told'++[x]).length (zd (told'++[x]))->Y8 w.heap.size a2 told ta4 (told'++[x]):=fun {ta4 tc4} h4=>by
           obtain⟨g4,c4,e4,hg4,_⟩:=h4.form (by simp);injection e4 with e5;exact Or.inr ⟨_,e5,by show _<=g4;omega⟩
          obtain⟨ta4,tc4,rfl,-,-⟩:=zJ hr4;refine⟨ta4,tc4,rfl,Qn hr4,fun e=>?_,p4,p5,by simp;omega,HSTEP.out,(zT HLR.out.below HB2.out).trans (hb4.mono (by have:=HLR.out.below.size;omega)),hloc4 hr4⟩;subst e;rcases hr4.2 with ⟨e,e0⟩|⟨g,cc,cur,e,_⟩
          ·simp at e0
          ·cases e
         have HTI:Hid (∀X,zB wr2 X->qh X ta told'):=fun X hX=>(HLR.out.ints.below HB2.out).below hX;have hnil:=zH HLR.out.nil;clear HON HNX hon hnx p1 p2 p3 p4 p5 hform HLI HSTEP;obtain⟨H,hH⟩:∃H,H=wr2.heap.size:=⟨_,rfl⟩;have bA:=zo wr2 (.cells #[] 3);have bC:=zo wr2 (.cells #[.int .i64 x] 3);have bAC:zB wr2 ((wr2.alloc (.cells #[] 3)).alloc (.cells #[.int .i64 x] 3)):=zL bA;have bCA:zB wr2 ((wr2.alloc (.cells #[.int .i64 x] 3)).alloc (.cells #[] 3)):=zL bC;have kS:Hid (∀X,zB wr2 X->X.cell? ⟨gl,0,none⟩=some (.int .i64 x)):=fun X hX=>(hX.cell (p:=⟨gl,0,none⟩) hgl).trans cx;have s0:=kS.out _ ((Below.refl wr2.heap.size wr2).drew);have sA:=kS.out _ bA.drew;have sC:=kS.out _ bC.drew;have sAC:=kS.out _ bAC.drew;have sCA:=kS.out _ bCA.drew;have eA:=World.ownsRow_lit (base:=wr2.heap.size) (e:=3) (size:=1) wr2 #[] 0 zN (by decide) rfl;have rA:Hid ((wr2.alloc (.cells #[] 3)).drew.ownsRow wr2.heap.size 3 1 (.slice (some ⟨wr2.heap.size,0,none⟩) 0 0) 0 []):=eA.drew;have rAC:Hid (((wr2.alloc (.cells #[] 3)).alloc (.cells #[.int .i64 x] 3)).drew.ownsRow wr2.heap.size 3 1 (.slice (some ⟨wr2.heap.size,0,none⟩) 0 0) 0 []):=(eA.alloc _).drew;have eCA:=World.ownsRow_lit (base:=wr2.heap.size) (e:=3) (size:=1) (wr2.alloc (.cells #[.int .i64 x] 3)) #[] 0 (by simp) (by decide) rfl;rw[World.size_alloc] at eCA;have rCA:Hid (((wr2.alloc (.cells #[.int .i64 x] 3)).alloc (.cells #[] 3)).drew.ownsRow wr2.heap.size 3 1 (.slice (some ⟨wr2.heap.size+1,0,none⟩) 0 0) 0 []):=eCA.drew;have cAC:((wr2.alloc (.cells #[] 3)).alloc (.cells #[.int .i64 x] 3)).drew.cell? ⟨wr2.heap.size+1,0,none⟩=some (.int .i64 x):=by simp
         have cCA:((wr2.alloc (.cells #[.int .i64 x] 3)).alloc (.cells #[] 3)).drew.cell? ⟨wr2.heap.size,0,none⟩=some (.int .i64 x):=by
          rw[World.cell?_drew,World.cell?_alloc_lt _ _ ⟨wr2.heap.size,0,none⟩ (by simp)];simp
         have zA:wr2.heap.size<=(wr2.alloc (.cells #[] 3)).drew.heap.size:=bA.drew.size;have zAC:wr2.heap.size+1<((wr2.alloc (.cells #[] 3)).alloc (.cells #[.int .i64 x] 3)).drew.heap.size:=by show _<(World.alloc _ _).heap.size;simp
         have zCA:wr2.heap.size+1<((wr2.alloc (.cells #[.int .i64 x] 3)).alloc (.cells #[] 3)).drew.heap.size:=by show _<(World.alloc _ _).heap.size;simp
         have HZ:Hid (_/\_/\_):=⟨zA,zAC,zCA⟩;have zAC':=zH (Nat.le_of_lt (Nat.lt_of_succ_lt zAC));have zCA':=zH (Nat.le_of_lt (Nat.lt_of_succ_lt zCA));have zCA2:=zH (Nat.lt_of_succ_lt zCA);have hr12:Hid (∀k,some wr2.heap.size=some k->wr2.heap.size<=k):=fun k hk=>by injection hk;omega
         have hr3:Hid (∀k,some (wr2.heap.size+1)=some k->wr2.heap.size<=k):=fun k hk=>by injection hk;omega
         have ne1:Hid (some (wr2.heap.size+1)≠some wr2.heap.size):=by show some (wr2.heap.size+1)≠some wr2.heap.size;simp
         have ne2:Hid (some wr2.heap.size≠some (wr2.heap.size+1)):=by show some wr2.heap.size≠some (wr2.heap.size+1);simp
         have HBX:Hid (_/\_/\_):=⟨bA.drew,bAC.drew,bCA.drew⟩;have HCX:Hid (_/\_):=⟨cAC,cCA⟩;clear bA bC bAC bCA eA eCA cAC cCA zA zAC zCA hH;go_wp2_with fail;go_region_held3 (fun X=>X.cell? ⟨gl,0,none⟩=some (.int .i64 x)) (first|exact s0|exact sA|exact sC|exact sAC|exact sCA|exact s1|exact s2|exact s3)
          (first
           |((refine QC (by rfl) _ _ 47 (by rfl) (.slice (some ⟨wr2.heap.size,0,none⟩) 0 0) (.slice ta told'.length tc) (by rfl) (by rfl) (YQ _ rA.out (HTI.out _ HBX.out.1) hnil.out hlen HZ.out.1) ?_;rintro v1 W1 ⟨hr1,hg1⟩;obtain⟨ra1,rc1,rfl,-,-⟩:=zJ hr1;have b1:=HBX.out.1.grown hg1 HZ.out.1 hr12.out;have s1:=kS.out _ b1;have s2:=kS.out _ (b1.alloc b1.size (.cells #[.int .i64 x] 3));have b2:=b1.alloc b1.size (.cells #[.int .i64 x] 3)))
           |((refine QC (by rfl) _ _ 47 (by rfl) (.slice (some ⟨wr2.heap.size,0,none⟩) 0 0) (.slice ta told'.length tc) (by rfl) (by rfl) (YQ _ rAC.out (HTI.out _ HBX.out.2.1) hnil.out hlen zAC'.out) ?_;rintro v1 W1 ⟨hr1,hg1⟩;obtain⟨ra1,rc1,rfl,-,-⟩:=zJ hr1;have b1:=HBX.out.2.1.grown hg1 zAC'.out hr12.out;have s1:=kS.out _ b1;have kc:=(hg1.cell_far ⟨wr2.heap.size+1,0,none⟩ HZ.out.2.1 ne1.out).trans HCX.out.1))
           |((refine QC (by rfl) _ _ 47 (by rfl) (.slice (some ⟨wr2.heap.size+1,0,none⟩) 0 0) (.slice ta told'.length tc) (by rfl) (by rfl) (YQ _ rCA.out (HTI.out _ HBX.out.2.2) hnil.out hlen zCA'.out) ?_;rintro v1 W1 ⟨hr1,hg1⟩;obtain⟨ra1,rc1,rfl,-,-⟩:=zJ hr1;have b1:=HBX.out.2.2.grown hg1 zCA'.out hr3.out;have s1:=kS.out _ b1;have kc:=(hg1.cell_far ⟨wr2.heap.size,0,none⟩ zCA2.out ne2.out).trans HCX.out.2))
           |((refine QC (by rfl) _ _ 47 (by rfl) (.slice ra1 told'.length rc1) (.slice (some ⟨W1.heap.size,0,none⟩) 1 1) (by rfl) (by rfl) (KB _ (hr1.alloc _) (Yq W1 (.int .i64 x) 3) hlen b2.size) ?_;rintro v4 W4 ⟨hr4,hg4⟩;have b4:=b2.grown hg4 b2.size (fun k hk=>(hr1.lt k hk).1);have s3:=kS.out _ b4))
           |((refine QC (by rfl) _ _ 47 (by rfl) (.slice ra1 told'.length rc1) (.slice (some ⟨wr2.heap.size+1,0,none⟩) 1 1) (by rfl) (by rfl) (KB _ hr1 kc hlen b1.size) ?_;rintro v4 W4 ⟨hr4,hg4⟩;have b4:=b1.grown hg4 b1.size (fun k hk=>(hr1.lt k hk).1);have s3:=kS.out _ b4))
           | ((refine QC (by rfl) _ _ 47 (by rfl) (.slice ra1 told'.length rc1) (.slice (some ⟨wr2.heap.size,0,none⟩) 1 1) (by rfl) (by rfl) (KB _ hr1 kc hlen b1.size) ?_;rintro v4 W4 ⟨hr4,hg4⟩;have b4:=b1.grown hg4 b1.size (fun k hk=>(hr1.lt k hk).1);have s3:=kS.out _ b4)))
         all_goals
          obtain⟨ta4,tc4,rfl,hlab4⟩:=HNEW.out W4 v4 hr4 b4;have HL4:=zH hlab4;clear hlab4 hr4 hg4 b4 hr1 hg1 HNEW;go_wp2;refine wp_goto ?_;show 0=0/\_;refine⟨rfl,⟨told'++[x],ta4,tc4,_,_,_,_,_,_,_,_,_,_,_,_,_,_,_,_,_,_,_,_,_,_,_,_,_,_,_,_,_,_,_,_,_,_,_,_,_,_,_,_,_,_,_,_,_,_,_,_,_,_,_,_,_,_,_,_,_,_,_,_,_,_,_,rfl,HL4.out⟩,?_⟩;show 24-(told'++[x]).length<24-told'.length;rw[List.length_append,List.length_singleton];omega
   ·obtain rfl:k=l.length:=by omega
    have HR:Hid (zt told' l=(-1,0)):=zar H1.out;have HEND:=zH (HLR.out.sp.at_stop HR.out);go_wp2;simp only[Exit.jump];go_ret2;obtain⟨rfl,rfl⟩:=HEND.out;exact⟨⟨ta,tc,rfl,HLR.out.ints,HLR.out.nil,HLR.out.loc⟩,HLR.out.below⟩
theorem zk5(v:Nat)(hv:v<=24)(l:List (List Int))(hls:qL v l)(_:∀c∈l,c.length<=48)(a:Option Addr)(cap:Nat)(told:List Int)(a2:Option Addr)(cap2:Nat)(w:World)(hI:qn w a l)(hm:l.length<=9223372036854775807)(hT:qh w a2 told)(hn:a2=none->cap2=0)(hco:qD told)(hli:ya v told)(hfew:told.length+qH told<=24)(t:List Int)(b:Int)(hsp:xv l told t b) :
  zC 245 #[.slice a l.length cap,.slice a2 told.length cap2] w fun e w'=>zbU w.heap.size a2 told t b e w'/\zB w w' :=
 zhp v hv l hls a cap told a2 cap2 w hI hm hT hn hco hli hfew t b hsp
end
end Go.Proofs.YtiihalknffbjpaaGreatDoor
